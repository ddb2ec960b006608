// Package text is layer 1: see shared/doc/01-text.md.
package text

import (
	"math"
	"strconv"
	"strings"

	"ostler/api"
)

// tokenMarks are a token's bytes beside letters and digits.
const tokenMarks = "!#$%&'*+-.^_`|~"

// noDigit is what a byte counts that is a digit of no base here: more than any digit does.
const noDigit = 16

// Token tells whether a text is a token.
func Token(s string) bool {
	for i := 0; i < len(s); i++ {
		if !isTokenByte(s[i]) {
			return false
		}
	}
	return s != ""
}

// Value tells whether a text may be a field's value.
func Value(s string) bool {
	for i := 0; i < len(s); i++ {
		if !isValueByte(s[i]) {
			return false
		}
	}
	return len(Trim(s)) == len(s)
}

// Lower is a text with letters in lower case.
func Lower(s string) string {
	// Byte by byte, as strings.ToLower would change letters beyond Z, and bytes that are no UTF-8.
	b := []byte(s)
	for i, c := range b {
		if 'A' <= c && c <= 'Z' {
			b[i] = c - 'A' + 'a'
		}
	}
	return string(b)
}

// Same tells whether two texts are the same but for the case of letters.
func Same(a, b string) bool { return Lower(a) == Lower(b) }

// Trim is a text without blanks and tabs at its ends.
func Trim(s string) string {
	start, end := 0, len(s)
	for start < end && isBlank(s[start]) {
		start++
	}
	for start < end && isBlank(s[end-1]) {
		end--
	}
	return s[start:end]
}

// Number is a decimal number.
func Number(s string) (int, api.Errno) { return read(s, 10) }

// Hex is a hexadecimal number.
func Hex(s string) (int, api.Errno) { return read(s, 16) }

// Decimal writes a number.
func Decimal(n int) string { return strconv.Itoa(n) }

// List is the members of a list.
func List(s string) []string {
	var members []string
	start, quoted := 0, false
	for i := 0; i < len(s); i++ {
		switch {
		case s[i] == '"':
			quoted = !quoted
		case quoted && s[i] == '\\':
			// The byte behind it is passed over, as it ends no quotes.
			i++
		case !quoted && s[i] == ',':
			members = addMember(members, s[start:i])
			start = i + 1
		}
	}
	return addMember(members, s[start:])
}

// addMember is the members and what a piece of a list holds, if it holds anything.
func addMember(members []string, piece string) []string {
	if member := Trim(piece); member != "" {
		return append(members, member)
	}
	return members
}

// read is the number that digits of a base write.
func read(s string, base int) (int, api.Errno) {
	if s == "" {
		return 0, api.ErrDigits
	}
	n, over := 0, false
	for i := 0; i < len(s); i++ {
		d := digit(s[i])
		if d >= base {
			return 0, api.ErrDigits
		}
		// A number that is too great is read to its end all the same: a byte that is no digit is named first.
		over = over || n > (math.MaxInt64-d)/base
		if !over {
			n = n*base + d
		}
	}
	if over {
		return 0, api.ErrRange
	}
	return n, api.OK
}

// digit is what a byte counts as a hexadecimal digit.
func digit(c byte) int {
	switch {
	case isDigit(c):
		return int(c - '0')
	case 'a' <= c && c <= 'f':
		return int(c-'a') + 10
	case 'A' <= c && c <= 'F':
		return int(c-'A') + 10
	}
	return noDigit
}

func isTokenByte(c byte) bool {
	return isLetter(c) || isDigit(c) || strings.IndexByte(tokenMarks, c) >= 0
}

func isValueByte(c byte) bool { return c == '\t' || ' ' <= c && c <= '~' || c >= 0x80 }

func isLetter(c byte) bool { return 'A' <= c && c <= 'Z' || 'a' <= c && c <= 'z' }

func isDigit(c byte) bool { return '0' <= c && c <= '9' }

func isBlank(c byte) bool { return c == ' ' || c == '\t' }
