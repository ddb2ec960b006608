package path

import (
	"net/url"
	stdpath "path"
	"regexp"
	"slices"
	"strings"
	"testing"

	"ostler/api"
)

// numbers are some that look scattered, the same ones for the same seed.
func numbers(seed uint64) func(n int) int {
	return func(n int) int {
		seed = seed*6364136223846793005 + 1442695040888963407
		return int(seed>>33) % n
	}
}

// eachText calls a function with each text of some pieces, at most so many of them.
func eachText(pieces []string, most int, do func(s string)) {
	var grow func(s string, left int)
	grow = func(s string, left int) {
		do(s)
		for _, piece := range pieces {
			if left > 0 {
				grow(s+piece, left-1)
			}
		}
	}
	grow("", most)
}

func oneByte(c int) string { return string([]byte{byte(c)}) }

func wantClean(t *testing.T, target, path, query string) {
	t.Helper()
	if p, q, err := Clean(target); p != path || q != query || err != api.OK {
		t.Errorf("Clean(%.80q) = %.80q, %.80q, %d, not %.80q, %.80q", target, p, q, int(err), path, query)
	}
}

func wantError(t *testing.T, target string, want api.Errno) {
	t.Helper()
	if p, q, err := Clean(target); p != "" || q != "" || err != want {
		t.Errorf("Clean(%.80q) = %.80q, %.80q, %d, not the error %d", target, p, q, int(err), int(want))
	}
}

func wantParts(t *testing.T, path string, want ...string) {
	t.Helper()
	if list := Parts(path); !slices.Equal(list, want) {
		t.Errorf("Parts(%.80q) = %.200q, not %.200q", path, list, want)
	}
}

// The plain reading of a target: expressions, and what the library knows of escapes and dots.

type reading struct{ target, refused, last *regexp.Regexp }

func newReading() reading {
	return reading{
		target:  regexp.MustCompile(`(?s)^([^?]*)(?:\?(.*))?$`),
		refused: regexp.MustCompile(`%(?:[01].|2[fF]|7[fF])`),
		last:    regexp.MustCompile(`/\.{0,2}$`),
	}
}

// above tells whether a path leads above its root, be it on its way only.
func above(path string) bool {
	depth := 0
	for _, part := range strings.Split(path, "/") {
		switch part {
		case "", ".":
		case "..":
			depth--
		default:
			depth++
		}
		if depth < 0 {
			return true
		}
	}
	return false
}

func (r reading) clean(target string) (path, query string, err api.Errno) {
	cut := r.target.FindStringSubmatch(target)
	if !strings.HasPrefix(cut[1], "/") {
		return "", "", api.ErrArg
	}
	plain, wrong := url.PathUnescape(cut[1])
	if wrong != nil || r.refused.MatchString(cut[1]) {
		return "", "", api.ErrEscape
	}
	if above(plain) {
		return "", "", api.ErrAbove
	}
	path = stdpath.Clean(plain)
	if r.last.MatchString(plain) && path != "/" {
		path += "/"
	}
	return path, cut[2], api.OK
}

// hold holds Clean against the plain reading; one fault of a test is enough.
func (r reading) hold(t *testing.T, target string) {
	t.Helper()
	if t.Failed() {
		return
	}
	if path, query, err := r.clean(target); err != api.OK {
		wantError(t, target, err)
	} else {
		wantClean(t, target, path, query)
	}
}

// The chapter's examples.

func TestExamplesOfTargets(t *testing.T) {
	wantClean(t, "/a/b?c?d", "/a/b", "c?d")
	wantClean(t, "/", "/", "")
	wantClean(t, "/?x", "/", "x")
	wantClean(t, "//a/./b//", "/a/b/", "")
	wantClean(t, "/a/../b", "/b", "")
	wantClean(t, "/a/b/..", "/a/", "")
	wantError(t, "/..", api.ErrAbove)
	wantClean(t, "/%61%2e%2E/b", "/a../b", "")
	wantError(t, "/%2e%2e", api.ErrAbove)
	wantError(t, "/a%2fb", api.ErrEscape)
	wantError(t, "/%0a", api.ErrEscape)
	wantError(t, "/%", api.ErrEscape)
	wantError(t, "/%g1", api.ErrEscape)
	wantClean(t, "/%25%34%31", "/%41", "")
	wantError(t, "a", api.ErrArg)
	wantError(t, "", api.ErrArg)
	wantError(t, "?x", api.ErrArg)
	wantParts(t, "//a/b/", "a", "b")
}

// P17.1: what is named first is the answer, of the path alone.

func TestFirstErrorIsTold(t *testing.T) {
	wantError(t, "a%", api.ErrArg)
	wantError(t, "%2f", api.ErrArg)
	wantError(t, "../a", api.ErrArg)
	wantError(t, " /a", api.ErrArg)
	wantError(t, "*", api.ErrArg)
	wantError(t, "/../%", api.ErrEscape)
	wantError(t, "/../%2f", api.ErrEscape)
	wantError(t, "/a/../..?%", api.ErrAbove)
}

func TestQueryStaysAsItStands(t *testing.T) {
	for _, query := range []string{"", "?", "??", "/../..", "%", "%41", "%0a", "a=b&c", "#", "\x00\xff", "//./"} {
		wantClean(t, "/a?"+query, "/a", query)
	}
	wantClean(t, "/a%3fb?c", "/a?b", "c")
}

// P17.1: each byte by an escape, in capitals and not.

func TestEachEscape(t *testing.T) {
	const small, great = "0123456789abcdef", "0123456789ABCDEF"
	for c := range 256 {
		for _, digits := range []string{small, great} {
			target := "/x%" + oneByte(int(digits[c>>4])) + oneByte(int(digits[c&15])) + "y"
			if c < 0x20 || c == 0x7f || c == '/' {
				wantError(t, target, api.ErrEscape)
			} else {
				wantClean(t, target, "/x"+oneByte(c)+"y", "")
			}
		}
	}
	wantClean(t, "/%aB%Ab", "/\xab\xab", "")
}

// P17.1: each two bytes behind a percent sign, of which only digits make an escape.
func TestEachTwoBytesBehindPercent(t *testing.T) {
	r := newReading()
	for a := range 256 {
		r.hold(t, "/%"+oneByte(a))
		for b := range 256 {
			r.hold(t, "/%"+oneByte(a)+oneByte(b))
		}
	}
	wantError(t, "/%%", api.ErrEscape)
	wantError(t, "/%4?1", api.ErrEscape)
	wantError(t, "/%/41", api.ErrEscape)
	wantError(t, "/ok/%41%4", api.ErrEscape)
}

func TestEscapesAreUndoneOnce(t *testing.T) {
	wantClean(t, "/%2541", "/%41", "")
	wantClean(t, "/%252f", "/%2f", "")
	wantClean(t, "/%25", "/%", "")
	wantClean(t, "/%25zz", "/%zz", "")
	wantClean(t, "/%252e%252e", "/%2e%2e", "")
	wantClean(t, "/a%23%3F", "/a#?", "")
}

// P17.1: bytes that are no escape stand for themselves, whatever they are.
func TestEachByteAsItStands(t *testing.T) {
	r := newReading()
	for c := range 256 {
		r.hold(t, oneByte(c))
		r.hold(t, oneByte(c)+"/a")
		r.hold(t, "/a"+oneByte(c)+"b")
		r.hold(t, "/"+oneByte(c))
		if c != '%' && c != '?' && c != '/' {
			wantClean(t, "/a"+oneByte(c)+"b", "/a"+oneByte(c)+"b", "")
		}
	}
	wantClean(t, "/\n\x7f\x00", "/\n\x7f\x00", "")
}

// P17.1: parts.

func TestDots(t *testing.T) {
	for path, want := range map[string]string{
		"///": "/", "/.": "/", "/./": "/", "/./.": "/", "/a/..": "/", "/a/../": "/", "/a/../.": "/", "/a/b/../..": "/",
		"/a": "/a", "/a/": "/a/", "/a//": "/a/", "/a/.": "/a/", "/a/./": "/a/", "/a/b/.": "/a/b/", "/a/b/../": "/a/",
		"/a/b/../c": "/a/c", "/a/b/../../c": "/c", "/a/../b/../c": "/c", "/a/..//b": "/b", "/a//..": "/", "/a/./..": "/",
		"/...": "/...", "/..a": "/..a", "/a..": "/a..", "/.a": "/.a", "/a.": "/a.", "/a/...": "/a/...", "/. ": "/. ",
		"/%2e": "/", "/a/%2e": "/a/", "/a/%2e.": "/", "/a/.%2E/b": "/b", "/a/b/%2e%2e": "/a/",
	} {
		wantClean(t, path, want, "")
		wantClean(t, path+"?q", want, "q")
	}
	for _, path := range []string{"/..", "/../", "/../a", "/./..", "//..", "/a/../..", "/a/../../b", "/a/b/../../..", "/%2E.", "/../../a/b/c"} {
		wantError(t, path, api.ErrAbove)
	}
}

var pieces = []string{"/", "a", ".", "%", "?", "%2e", "%2F", "%41", "%0", "b", "\xc3"}

func TestAllShortTargets(t *testing.T) {
	r := newReading()
	eachText(pieces, 5, func(s string) {
		r.hold(t, s)
		r.hold(t, "/"+s)
	})
	eachText([]string{"/", "a", ".", ".."}, 8, func(s string) { r.hold(t, "/"+s) })
}

func TestScatteredTargets(t *testing.T) {
	r, next := newReading(), numbers(17)
	for range 200000 {
		target := "/"
		for range next(24) {
			if next(8) == 0 {
				target += oneByte(next(256))
			} else {
				target += []string{"/", "/", "/", ".", ".", "a", "bc", "%2e", "%41", "%e9", "/../", "/./"}[next(12)]
			}
		}
		r.hold(t, target)
	}
}

// P17.2

func TestParts(t *testing.T) {
	wantParts(t, "")
	wantParts(t, "/")
	wantParts(t, "///")
	wantParts(t, "a", "a")
	wantParts(t, "a/b", "a", "b")
	wantParts(t, "/a", "a")
	wantParts(t, "/a/", "a")
	wantParts(t, "/a/b/c", "a", "b", "c")
	wantParts(t, "/./../%2f/ /?", ".", "..", "%2f", " ", "?")
	wantParts(t, "\\/\x00/\xff", "\\", "\x00", "\xff")
}

func TestAllShortPaths(t *testing.T) {
	part := regexp.MustCompile(`[^/]+`)
	eachText([]string{"/", "a", ".", "%2f", "\xe9"}, 6, func(s string) {
		if !t.Failed() {
			wantParts(t, s, part.FindAllString(s, -1)...)
		}
	})
}

func TestPartsAreNewMemory(t *testing.T) {
	first, second := Parts("/a/b"), Parts("/a/b")
	first[0] = "x"
	if second[0] != "a" || Parts("/a/b")[0] != "a" {
		t.Error("two answers share memory")
	}
}

// P17.4, of targets whose bytes are those that a request's target may have, and some more: not those below 20 or 7F, which no escape may stand for.

func isClean(path string) bool {
	if !strings.HasPrefix(path, "/") || strings.Contains(path, "//") {
		return false
	}
	for _, part := range strings.Split(strings.TrimSuffix(path[1:], "/"), "/") {
		low := strings.ContainsFunc(part, func(r rune) bool { return r < 0x20 })
		if part == "." || part == ".." || low || part == "" && path != "/" {
			return false
		}
	}
	return true
}

func holdWhatFollows(t *testing.T, target string) {
	t.Helper()
	path, _, err := Clean(target)
	if t.Failed() || err != api.OK {
		return
	}
	if !isClean(path) {
		t.Errorf("Clean(%q) = %q, which is not clean", target, path)
	}
	wantClean(t, Escape(path), path, "")
	if !strings.ContainsAny(path, "%?") {
		wantClean(t, path, path, "")
	}
	if want := strings.Join(Parts(path), "/"); strings.Trim(path, "/") != want {
		t.Errorf("the parts of %q are %q", path, want)
	}
}

func TestCleanIsClean(t *testing.T) {
	eachText(pieces, 5, func(s string) { holdWhatFollows(t, "/"+s) })
	eachText([]string{"/", "%25", ".", "%3f", " ", "\x80\xff"}, 5, func(s string) { holdWhatFollows(t, "/"+s) })
	next := numbers(4)
	for range 50000 {
		target := "/"
		for range next(20) {
			c := 0x20 + next(0xe0)
			if c != 0x7f {
				target += []string{oneByte(c), oneByte(c), "/", ".", "%2E", "a"}[next(6)]
			}
		}
		holdWhatFollows(t, target)
	}
}

// R1: great ones.

func TestGreatTargets(t *testing.T) {
	const n = 1 << 20
	wantClean(t, strings.Repeat("/", n), "/", "")
	wantClean(t, strings.Repeat("/a/..", n), "/", "")
	wantClean(t, strings.Repeat("/a", n)+"/", strings.Repeat("/a", n)+"/", "")
	wantClean(t, "/"+strings.Repeat("%2e", n), "/"+strings.Repeat(".", n), "")
	wantClean(t, strings.Repeat("/a", n)+strings.Repeat("/..", n), "/", "")
	wantError(t, strings.Repeat("/a", n)+strings.Repeat("/..", n+1), api.ErrAbove)
	wantClean(t, "/?"+strings.Repeat("?", n), "/", strings.Repeat("?", n))
	if list := Parts(strings.Repeat("/a", n)); len(list) != n {
		t.Errorf("%d parts", len(list))
	}
}
