package path

import (
	"strings"

	"ostler/api"
)

// Escape writes a path as a target.
func Escape(path string) string {
	const digits = "0123456789ABCDEF"
	var target strings.Builder
	for _, b := range []byte(path) {
		if bare(b) {
			target.WriteByte(b)
			continue
		}
		target.WriteByte('%')
		target.WriteByte(digits[b>>4])
		target.WriteByte(digits[b&15])
	}
	return target.String()
}

// bare tells whether a byte stands in a target as it is.
func bare(b byte) bool {
	switch {
	case 'a' <= b && b <= 'z', 'A' <= b && b <= 'Z', '0' <= b && b <= '9':
		return true
	}
	return b == '-' || b == '.' || b == '_' || b == '~' || b == '/'
}

// undo is a path without its escapes.
func undo(escaped string) (string, api.Errno) {
	var plain strings.Builder
	for i := 0; i < len(escaped); i++ {
		b := escaped[i]
		if b == '%' {
			meant, is := read(escaped[i+1:])
			if !is || !escapable(meant) {
				return "", api.ErrEscape
			}
			b = meant
			i += 2
		}
		plain.WriteByte(b)
	}
	return plain.String(), api.OK
}

// read is the byte that the two hexadecimal digits stand for with which a text begins; false, if it does not.
func read(s string) (byte, bool) {
	if len(s) < 2 {
		return 0, false
	}
	high, is := digit(s[0])
	low, too := digit(s[1])
	return high<<4 | low, is && too
}

// digit is what a byte counts as a hexadecimal digit.
func digit(b byte) (byte, bool) {
	switch {
	case '0' <= b && b <= '9':
		return b - '0', true
	case 'A' <= b && b <= 'F':
		return b - 'A' + 10, true
	case 'a' <= b && b <= 'f':
		return b - 'a' + 10, true
	}
	return 0, false
}

// escapable tells whether an escape may stand for a byte: a slash would cut a part in two that is one.
func escapable(b byte) bool { return b >= 0x20 && b != 0x7f && b != '/' }
