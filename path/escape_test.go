package path

import (
	"fmt"
	"net/url"
	"strings"
	"testing"
)

func wantEscape(t *testing.T, path, want string) {
	t.Helper()
	if s := Escape(path); s != want {
		t.Errorf("Escape(%.80q) = %.80q, not %.80q", path, s, want)
	}
}

func escapeByWords(path string) string {
	const bare = "abcdefghijklmnopqrstuvwxyzABCDEFGHIJKLMNOPQRSTUVWXYZ0123456789-._~/"
	s := ""
	for _, b := range []byte(path) {
		if strings.IndexByte(bare, b) >= 0 {
			s += oneByte(int(b))
		} else {
			s += fmt.Sprintf("%%%02X", b)
		}
	}
	return s
}

func TestExampleOfEscape(t *testing.T) { wantEscape(t, "/a b/%", "/a%20b/%25") }

// P17.3

func TestEachByteEscaped(t *testing.T) {
	for c := range 256 {
		wantEscape(t, oneByte(c), escapeByWords(oneByte(c)))
		wantEscape(t, "/a"+oneByte(c)+"/~", "/a"+escapeByWords(oneByte(c))+"/~")
	}
	wantEscape(t, "", "")
	wantEscape(t, "azAZ09-._~/", "azAZ09-._~/")
	wantEscape(t, "@[`{:,+^", "%40%5B%60%7B%3A%2C%2B%5E")
	wantEscape(t, "%41?#", "%2541%3F%23")
	wantEscape(t, "//../.", "//../.")
	wantEscape(t, "\x00\x0a\x7f\x80\xab\xff", "%00%0A%7F%80%AB%FF")
	wantEscape(t, "\u00e9", "%C3%A9")
}

func TestScatteredEscapes(t *testing.T) {
	next := numbers(3)
	for range 20000 {
		path := ""
		for range next(20) {
			path += oneByte(next(256))
		}
		wantEscape(t, path, escapeByWords(path))
		if back, err := url.PathUnescape(Escape(path)); back != path || err != nil {
			t.Errorf("%q comes back as %q, %v", path, back, err)
		}
		if t.Failed() {
			return
		}
	}
}

func TestGreatEscape(t *testing.T) {
	const n = 1 << 20
	wantEscape(t, strings.Repeat(" ", n), strings.Repeat("%20", n))
	wantEscape(t, strings.Repeat("/", n), strings.Repeat("/", n))
}
