package route

import (
	"strconv"
	"strings"
	"testing"

	"ostler/api"
)

// numbers are some that look scattered, the same ones for the same seed.
func numbers(seed uint64) func(n int) int {
	return func(n int) int {
		seed = seed*6364136223846793005 + 1442695040888963407
		return int(seed>>33) % n
	}
}

// eachText calls a function with each text of some pieces, at most so many of them.
func eachText(pieces []string, most int, do func(s string)) {
	var grow func(s string, left int)
	grow = func(s string, left int) {
		do(s)
		for _, piece := range pieces {
			if left > 0 {
				grow(s+piece, left-1)
			}
		}
	}
	grow("", most)
}

func oneByte(c int) string { return string([]byte{byte(c)}) }

// list is routes, each told by its method, a blank and its pattern.
func list(texts ...string) []api.Route {
	var routes []api.Route
	for _, s := range texts {
		method, pattern, _ := strings.Cut(s, " ")
		routes = append(routes, api.Route{Method: method, Pattern: pattern, Handler: api.Hello})
	}
	return routes
}

func wantNew(t *testing.T, want api.Errno, routes ...api.Route) {
	t.Helper()
	router, err := New(routes...)
	if err != want || (router == nil) != (want != api.OK) {
		t.Errorf("New(%.200q) = %v, %d, not %d", routes, router != nil, int(err), int(want))
	}
}

func wantPattern(t *testing.T, pattern string, is bool) {
	t.Helper()
	want := api.ErrPattern
	if is {
		want = api.OK
	}
	wantNew(t, want, api.Route{Pattern: pattern, Handler: api.Files})
}

// The chapter's examples.

func TestExamplesOfNew(t *testing.T) {
	for _, s := range []string{"GET a", "GET /a/", "GET /{x}/{x}", "GET /{x...}/a"} {
		wantNew(t, api.ErrPattern, list(s)...)
	}
	wantNew(t, api.ErrTwice, list("GET /{x}", "GET /{y}")...)
}

// P18.1: patterns.

func TestPatterns(t *testing.T) {
	for _, s := range []string{
		"/", "/a", "/a/b", "/{x}", "/{x}/{y}", "/{x...}", "/a/{x}/b/{y...}", "/{x1}", "/{x1}/{x2}/{x}", "/{az09}", "/{rest...}", "/{x0...}",
		"/.", "/..", "/...", "/a...", "/*", "/%41", "/?a", "/!", "/~", "/a.b-c_d", "/x...", "/:x", "/a/a/a", "/[x]",
	} {
		wantPattern(t, s, true)
	}
	for _, s := range []string{
		"", "a", "//", "/a/", "///", "//a", "/a//b", "/{x}/", "/{x...}/", " /", "/ ", "{x}", "{x...}", "*", "\\a",
		"/{}", "/{...}", "/{x", "/x}", "/{", "/}", "/{}}", "/{{x}}", "/{{x}", "/{x}}", "/}x{", "/a{x}", "/{x}a", "/{x}{y}", "/{x...}a", "/a{x...}",
		"/{X}", "/{1}", "/{1x}", "/{x-y}", "/{x_}", "/{x }", "/{ x}", "/{x.}", "/{x..}", "/{x....}", "/{.x}", "/{...x}", "/{x...y}", "/{x.../y}", "/{x/y}",
		"/{X...}", "/{1...}", "/{\xe9}", "/{x\x00}", "/{xY}",
		"/{x...}/a", "/{x...}/{y}", "/{x...}/{y...}", "/a/{x...}/b",
		"/{x}/{x}", "/{x}/{x...}", "/{x}/a/{y}/b/{x}", "/{a1}/{a2}/{a1...}",
		"/a b", "/a\tb", "/a\x7f", "/\x80", "/\u00e9", "/a\n", "/\x00",
	} {
		wantPattern(t, s, false)
	}
}

func TestEachByteOfPlainPart(t *testing.T) {
	for c := range 256 {
		is := 0x21 <= c && c <= 0x7e && c != '{' && c != '}' && c != '/'
		for _, s := range []string{"/?", "/a?", "/?a", "/a?b", "/a/?", "/{x}/?"} {
			wantPattern(t, strings.ReplaceAll(s, "?", oneByte(c)), is || c == '/' && s == "/a?b")
		}
	}
}

func TestEachByteOfName(t *testing.T) {
	for c := range 256 {
		letter, digit := 'a' <= c && c <= 'z', '0' <= c && c <= '9'
		for _, end := range []string{"}", "...}"} {
			wantPattern(t, "/{"+oneByte(c)+end, letter)
			wantPattern(t, "/{"+oneByte(c)+"a"+end, letter)
			wantPattern(t, "/{a"+oneByte(c)+end, letter || digit)
			wantPattern(t, "/{a"+oneByte(c)+"b"+end, letter || digit)
			wantPattern(t, "/a/{a9"+oneByte(c)+"0"+end, letter || digit)
		}
	}
}

func TestAllShortPatterns(t *testing.T) {
	r := newReading()
	hold := func(s string) {
		if r.isPattern(s) != (newErr(s) == api.OK) {
			t.Errorf("New of %q: %d", s, int(newErr(s)))
		}
	}
	eachText([]string{"/", "a", "{", "}", "...", "1", "/{x}", "/{y...}"}, 6, hold)
	eachText([]string{"/a", "/{x}", "/{y}", "/{x...}", "/{y...}", "/", "/B"}, 5, hold)
}

func newErr(pattern string) api.Errno {
	_, err := New(api.Route{Pattern: pattern, Handler: api.Gone})
	return err
}

// P18.1: methods and handlers.

func TestMethods(t *testing.T) {
	for _, s := range []string{"", "GET", "get", "M-SEARCH", "!#$%&'*+-.^_`|~", "0"} {
		wantNew(t, api.OK, api.Route{Method: s, Pattern: "/", Handler: 1})
	}
	for _, s := range []string{" ", "G T", "GET ", " GET", "GET,", "G/T", "\x00", "G\x80", "\u00e9", "{x}", "a:b"} {
		wantNew(t, api.ErrPattern, api.Route{Method: s, Pattern: "/", Handler: 1})
	}
	for c := range 256 {
		want := api.ErrPattern
		if strings.Contains("abcdefghijklmnopqrstuvwxyzABCDEFGHIJKLMNOPQRSTUVWXYZ0123456789!#$%&'*+-.^_|~\x60", oneByte(c)) {
			want = api.OK
		}
		wantNew(t, want, api.Route{Method: oneByte(c), Pattern: "/", Handler: 1})
		wantNew(t, want, api.Route{Method: "A" + oneByte(c), Pattern: "/a/{x}", Handler: 4})
	}
}

func TestHandlers(t *testing.T) {
	for h := range 256 {
		want := api.ErrPattern
		if 1 <= h && h <= 4 {
			want = api.OK
		}
		wantNew(t, want, api.Route{Method: "GET", Pattern: "/", Handler: api.Handler(h)})
	}
}

func TestRootDoesNotCount(t *testing.T) {
	for _, root := range []string{"", "/w", "w", "/../", "\x00"} {
		wantNew(t, api.OK, api.Route{Pattern: "/{p...}", Handler: api.Files, Root: root})
	}
	wantNew(t, api.ErrTwice, api.Route{Pattern: "/", Handler: api.Files, Root: "/a"}, api.Route{Pattern: "/", Handler: api.Echo, Root: "/b"})
}

// P18.1: one shape.

func TestOneShape(t *testing.T) {
	for _, x := range [][2]string{
		{" /", " /"}, {"GET /", "GET /"}, {"GET /a", "GET /a"}, {"X /{x...}", "X /{y...}"}, {"X /a/{x}/{y}", "X /a/{y}/{x}"}, {" /{x}/b/{z...}", " /{a1}/b/{x...}"},
	} {
		wantNew(t, api.ErrTwice, list(x[0], x[1])...)
		wantNew(t, api.ErrTwice, list(x[0], "GET /other", x[1])...)
	}
	for _, x := range [][2]string{
		{"GET /", "HEAD /"}, {"GET /", " /"}, {"GET /", "get /"}, {"GET /a", "GET /b"}, {"GET /a", "GET /A"}, {"GET /a", "GET /a/a"}, {"GET /", "GET /{x...}"},
		{"GET /{x}", "GET /{x...}"}, {"GET /{x}", "GET /x"}, {"GET /x", "GET /{x...}"}, {"GET /a/{x}", "GET /{x}/a"}, {"GET /{x}", "GET /{x}/{y}"}, {"GET /{x}", "GET /{x}/{y...}"},
		{"GET /a/b", "GET /ab"}, {"GET /...", "GET /{x...}"},
	} {
		wantNew(t, api.OK, list(x[0], x[1])...)
		wantNew(t, api.OK, list(x[1], x[0])...)
	}
}

// P18.1 and R1: the first error is told.

func TestErrorsRouteByRoute(t *testing.T) {
	wantNew(t, api.ErrTwice, list("GET /{x}", "GET /{y}", "GET a")...)
	wantNew(t, api.ErrPattern, list("GET /{x}", "GET a", "GET /{y}")...)
	wantNew(t, api.ErrPattern, list("GET a", "GET a")...)
	for _, second := range []api.Route{
		{Method: "GET", Pattern: "/a"}, {Method: "GET", Pattern: "/a", Handler: 5}, {Method: "G T", Pattern: "/a", Handler: 1}, {Method: "GET", Pattern: "/a/", Handler: 1},
	} {
		wantNew(t, api.ErrPattern, api.Route{Method: "GET", Pattern: "/a", Handler: 1}, second)
		wantNew(t, api.ErrPattern, second, second)
	}
	wantNew(t, api.ErrTwice, append(list("GET /a", "GET /a"), api.Route{})...)
}

func TestManyRoutes(t *testing.T) {
	var routes []api.Route
	for i := range 257 {
		routes = append(routes, api.Route{Method: "GET", Pattern: "/a" + strconv.Itoa(i) + "/{x}", Handler: api.Echo})
	}
	wantNew(t, api.OK, routes[:255]...)
	wantNew(t, api.OK, routes[:256]...)
	wantNew(t, api.ErrMany, routes...)
	wantNew(t, api.ErrMany, make([]api.Route, 257)...)
	wantNew(t, api.ErrPattern, make([]api.Route, 256)...)
	wantNew(t, api.ErrMany, append(routes[:256:256], routes[0])...)
	wantNew(t, api.ErrTwice, append(routes[:255:255], routes[0])...)
	router, _ := New(routes[:256]...)
	for i := range 256 {
		wantFind(t, router, "GET", "/a"+strconv.Itoa(i)+"/b", 200, i, "x=b", "")
	}
	wantFind(t, router, "GET", "/a256/b", 404, -1, "", "")
}

func TestManyNames(t *testing.T) {
	pattern := ""
	for i := range 4096 {
		pattern += "/{x" + strconv.Itoa(i) + "}"
	}
	wantPattern(t, pattern, true)
	wantPattern(t, pattern+"/{x4096...}", true)
	for _, i := range []string{"0", "1", "2047", "4094", "4095"} {
		wantPattern(t, pattern+"/{x"+i+"}", false)
		wantPattern(t, pattern+"/{x"+i+"...}", false)
		wantPattern(t, "/{x"+i+"}/a"+pattern, false)
	}
}
