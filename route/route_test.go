package route

import (
	"slices"
	"strings"
	"testing"

	"ostler/api"
	"ostler/path"
)

// told is params as one text.
func told(params []api.Param) string {
	var list []string
	for _, p := range params {
		list = append(list, p.Name+"="+p.Value)
	}
	return strings.Join(list, " ")
}

func wantFind(t *testing.T, r *Router, method, path string, status, route int, params, allow string) {
	t.Helper()
	m := r.Find(method, path)
	if m.Status != status || m.Route != route || told(m.Params) != params || m.Allow != allow {
		t.Errorf("Find(%.80q, %.80q) = %.200v, not %d %d %.80q %q", method, path, m, status, route, params, allow)
	}
}

func router(t *testing.T, texts ...string) *Router {
	t.Helper()
	r, err := New(list(texts...)...)
	if r == nil || err != api.OK {
		t.Fatalf("New(%q): %d", texts, int(err))
	}
	return r
}

// The chapter's examples.

func TestExamplesOfFind(t *testing.T) {
	r := router(t, "GET /", "GET /a/{x}", "POST /a/b", " /f/{rest...}", "GET /f/{x}")
	wantFind(t, r, "GET", "/", 200, 0, "", "")
	wantFind(t, r, "HEAD", "/", 200, 0, "", "")
	wantFind(t, r, "POST", "/", 405, -1, "", "GET, HEAD, OPTIONS")
	wantFind(t, r, "OPTIONS", "/", 200, -1, "", "GET, HEAD, OPTIONS")
	wantFind(t, r, "GET", "/a/b", 405, -1, "", "OPTIONS, POST")
	wantFind(t, r, "GET", "/a/c/", 200, 1, "x=c", "")
	wantFind(t, r, "GET", "/f/u", 200, 4, "x=u", "")
	wantFind(t, r, "POST", "/f/u", 405, -1, "", "GET, HEAD, OPTIONS")
	wantFind(t, r, "PUT", "/f", 200, 3, "rest=", "")
	wantFind(t, r, "GET", "/f/u/v/", 200, 3, "rest=u/v/", "")
	wantFind(t, r, "GET", "/x", 404, -1, "", "")
}

// P18.2: which patterns fit.

func TestPlainParts(t *testing.T) {
	r := router(t, "GET /a", "GET /a/b", "GET /%41", "GET /a...", "GET /x/*/y")
	for path, want := range map[string]int{"/a": 0, "/a/": 0, "/a/b": 1, "/a/b/": 1, "/%41": 2, "/a...": 3, "/x/*/y": 4} {
		wantFind(t, r, "GET", path, 200, want, "", "")
	}
	for _, path := range []string{"/", "/b", "/A", "/ab", "/aa", "/a/b/c", "/a/c", "/b/a", "/a b", "/a.", "/a..", "/a....", "/x/z/y", "/x/*", "/x/*/y/z", "/\x80"} {
		wantFind(t, r, "GET", path, 404, -1, "", "")
		wantFind(t, r, "OPTIONS", path, 404, -1, "", "")
		wantFind(t, r, "", path, 404, -1, "", "")
	}
}

func TestCatchingParts(t *testing.T) {
	r := router(t, "GET /{x}/b/{y}", "GET /{only}")
	wantFind(t, r, "GET", "/a/b/c", 200, 0, "x=a y=c", "")
	wantFind(t, r, "GET", "/b/b/b/", 200, 0, "x=b y=b", "")
	wantFind(t, r, "GET", "/ /b/\xff", 200, 0, "x=  y=\xff", "")
	wantFind(t, r, "GET", "/{x}/b/{y...}", 200, 0, "x={x} y={y...}", "")
	wantFind(t, r, "GET", "/%2f", 200, 1, "only=%2f", "")
	wantFind(t, r, "GET", "/a?b#c", 200, 1, "only=a?b#c", "")
	wantFind(t, r, "GET", "/a/", 200, 1, "only=a", "")
	for _, path := range []string{"/", "/a/b", "/a/b/", "/a/c/b", "/a/b/c/d"} {
		wantFind(t, r, "GET", path, 404, -1, "", "")
	}
}

func TestRests(t *testing.T) {
	r := router(t, "GET /{r...}")
	for path, want := range map[string]string{"/": "", "/a": "a", "/a/": "a/", "/a/b": "a/b", "/a/b/": "a/b/", "/a/b/c/d/e": "a/b/c/d/e", "/\x80/ ": "\x80/ "} {
		wantFind(t, r, "GET", path, 200, 0, "r="+want, "")
	}
	r = router(t, "GET /f/{x}/{r...}", "GET /{a}/g/{b...}")
	wantFind(t, r, "GET", "/f", 404, -1, "", "")
	wantFind(t, r, "GET", "/f/", 404, -1, "", "")
	wantFind(t, r, "GET", "/f/u", 200, 0, "x=u r=", "")
	wantFind(t, r, "GET", "/f/u/", 200, 0, "x=u r=", "")
	wantFind(t, r, "GET", "/f/u/v", 200, 0, "x=u r=v", "")
	wantFind(t, r, "GET", "/f/u/v/", 200, 0, "x=u r=v/", "")
	wantFind(t, r, "GET", "/e/g", 200, 1, "a=e b=", "")
	wantFind(t, r, "GET", "/e/g/", 200, 1, "a=e b=", "")
	wantFind(t, r, "GET", "/e/h", 404, -1, "", "")
}

// P18.2: the finest of those that fit, in whatever order the routes are.

func TestFinest(t *testing.T) {
	for _, x := range []struct{ path, finer, other string }{
		{"/a", "/a", "/{x}"}, {"/a", "/a", "/{x...}"}, {"/a", "/{x}", "/{x...}"}, {"/a", "/a", "/a/{x...}"}, {"/a", "/{x}", "/{x}/{y...}"}, {"/", "/", "/{x...}"},
		{"/a", "/a/{x...}", "/{x}"}, {"/a", "/a/{x...}", "/{x...}"}, {"/a", "/a/{x...}", "/{x}/{y...}"},
		{"/a/b", "/a/{x}", "/{x}/b"}, {"/a/b", "/a/b", "/a/{x}"}, {"/a/b", "/a/{x...}", "/{x}/b"}, {"/a/b", "/a/{x}", "/a/{x...}"}, {"/a/b", "/{x}/b", "/{x}/{y}"},
		{"/a/b", "/{x}/{y}", "/{x}/{y...}"}, {"/a/b", "/{x}/{y...}", "/{x...}"}, {"/a/b", "/{x}/b/{y...}", "/{x}/{y}"}, {"/a/b/", "/a/b", "/a/b/{x...}"},
		{"/a/b/c", "/a/{x}/{y}", "/{x}/b/c"}, {"/a/b/c", "/a/{x...}", "/{x}/b/c"}, {"/a/b/c", "/{x}/b/{z...}", "/{x}/{y}/c"}, {"/a/b/c", "/a/b/{z...}", "/a/{y}/c"},
	} {
		for i, r := range []*Router{router(t, "GET "+x.finer, "POST "+x.other), router(t, "POST "+x.other, "GET "+x.finer)} {
			if m := r.Find("GET", x.path); m.Status != 200 || m.Route != i {
				t.Errorf("of %q and %q, of which the first is finer, GET %q: %v", x.finer, x.other, x.path, m)
			}
			wantFind(t, r, "POST", x.path, 405, -1, "", "GET, HEAD, OPTIONS")
			wantFind(t, r, "OPTIONS", x.path, 200, -1, "", "GET, HEAD, OPTIONS")
		}
	}
}

func TestOnlyTheFinestShapeAnswers(t *testing.T) {
	r := router(t, " /{x...}", "POST /a", "GET /{x}")
	wantFind(t, r, "GET", "/a", 405, -1, "", "OPTIONS, POST")
	wantFind(t, r, "DELETE", "/b", 405, -1, "", "GET, HEAD, OPTIONS")
	wantFind(t, r, "DELETE", "/", 200, 0, "x=", "")
	wantFind(t, r, "DELETE", "/b/c", 200, 0, "x=b/c", "")
}

// P18.2: which of a shape's routes.

func TestMethodOfShape(t *testing.T) {
	r := router(t, " /{any}", "GET /{get}", "POST /{post}", "OPTIONS /{o}")
	wantFind(t, r, "GET", "/v", 200, 1, "get=v", "")
	wantFind(t, r, "HEAD", "/v", 200, 1, "get=v", "")
	wantFind(t, r, "POST", "/v", 200, 2, "post=v", "")
	wantFind(t, r, "OPTIONS", "/v", 200, 3, "o=v", "")
	for _, method := range []string{"PUT", "", "get", "GET ", "G", "head", "\x00"} {
		wantFind(t, r, method, "/v", 200, 0, "any=v", "")
	}
	r = router(t, "GET /", "HEAD /", " /a", "HEAD /a")
	wantFind(t, r, "HEAD", "/", 200, 1, "", "")
	wantFind(t, r, "GET", "/", 200, 0, "", "")
	wantFind(t, r, "", "/", 405, -1, "", "GET, HEAD, OPTIONS")
	wantFind(t, r, "HEAD", "/a", 200, 3, "", "")
	wantFind(t, r, "OPTIONS", "/a", 200, 2, "", "")
	r = router(t, "HEAD /", " /a")
	wantFind(t, r, "GET", "/", 405, -1, "", "HEAD, OPTIONS")
	wantFind(t, r, "HEAD", "/a", 200, 1, "", "")
}

func TestNamesAreTheRoutesOwn(t *testing.T) {
	r := router(t, "GET /{a}/{b}", "POST /{b}/{a}", "PUT /{c}/{d}", "GET /w/{r...}", " /w/{all...}")
	wantFind(t, r, "GET", "/1/2", 200, 0, "a=1 b=2", "")
	wantFind(t, r, "HEAD", "/1/2", 200, 0, "a=1 b=2", "")
	wantFind(t, r, "POST", "/1/2", 200, 1, "b=1 a=2", "")
	wantFind(t, r, "PUT", "/1/2", 200, 2, "c=1 d=2", "")
	wantFind(t, r, "HEAD", "/w/2/", 200, 3, "r=2/", "")
	wantFind(t, r, "PUT", "/w/2/", 200, 4, "all=2/", "")
}

func TestAllowedMethods(t *testing.T) {
	for _, x := range []struct{ methods, allow string }{
		{"POST", "OPTIONS, POST"}, {"GET", "GET, HEAD, OPTIONS"}, {"HEAD", "HEAD, OPTIONS"}, {"OPTIONS", "OPTIONS"}, {"HEAD GET", "GET, HEAD, OPTIONS"},
		{"get", "OPTIONS, get"}, {"PUT GET DELETE", "DELETE, GET, HEAD, OPTIONS, PUT"}, {"b a B A", "A, B, OPTIONS, a, b"}, {"POST OPTIONS GET", "GET, HEAD, OPTIONS, POST"},
		{"AB A ! ~", "!, A, AB, OPTIONS, ~"}, {"OPTIONS2 OPTION", "OPTION, OPTIONS, OPTIONS2"},
	} {
		var texts []string
		for i, method := range strings.Fields(x.methods) {
			texts = append(texts, method+" /{x"+strings.Repeat("1", i)+"}")
		}
		r := router(t, append(texts, "X /{x...}", "Y /")...)
		wantFind(t, r, "NONE", "/a", 405, -1, "", x.allow)
		if !slices.Contains(strings.Fields(x.methods), "OPTIONS") {
			wantFind(t, r, "OPTIONS", "/a/", 200, -1, "", x.allow)
		}
	}
}

func TestNoPatternFits(t *testing.T) {
	for _, r := range []*Router{router(t), {}, router(t, " /a")} {
		wantFind(t, r, "GET", "/b", 404, -1, "", "")
		wantFind(t, r, "OPTIONS", "/", 404, -1, "", "")
	}
}

func TestNilRouter(t *testing.T) {
	var r *Router
	for _, method := range []string{"GET", "OPTIONS", ""} {
		wantFind(t, r, method, "/", 0, 0, "", "")
	}
}

// A path that is not clean is its parts all the same.
func TestPathsThatAreNotClean(t *testing.T) {
	r := router(t, "GET /", "GET /{x}/{r...}", "GET /a/b")
	wantFind(t, r, "GET", "", 200, 0, "", "")
	wantFind(t, r, "GET", "///", 200, 0, "", "")
	wantFind(t, r, "GET", "a//b", 200, 2, "", "")
	wantFind(t, r, "GET", "*", 200, 1, "x=* r=", "")
	wantFind(t, r, "GET", "//../c//d//", 200, 1, "x=.. r=c/d/", "")
}

// P18.1 to P18.3, against the plain reading.

var (
	somePatterns = []string{"/", "/a", "/b", "/{x}", "/{r...}", "/a/b", "/a/{x}", "/{x}/b", "/{x}/{y}", "/a/{r...}", "/b/{r...}", "/{x}/{r...}", "/a/b/{r...}", "/a/{x}/{r...}", "/{x}/b/{r...}"}
	someMethods  = []string{"", "GET", "HEAD", "OPTIONS", "POST"}
)

func somePaths() []string {
	var paths []string
	eachText([]string{"/a", "/b", "/c"}, 3, func(s string) {
		if s == "" {
			paths = append(paths, "/")
		} else {
			paths = append(paths, s, s+"/")
		}
	})
	return paths
}

func TestEachTwoRoutes(t *testing.T) {
	r, paths := newReading(), somePaths()
	for _, p := range somePatterns {
		for _, q := range somePatterns {
			for _, m := range someMethods {
				r.hold(t, list("GET "+p, m+" "+q), someMethods, paths)
			}
		}
	}
}

func TestScatteredRoutes(t *testing.T) {
	r, next, paths := newReading(), numbers(18), somePaths()
	parts := []string{"/a", "/b", "/c", "/{x}", "/{y}", "/{z}", "/{r...}", "/{s...}"}
	methods := []string{"", "GET", "GET", "HEAD", "OPTIONS", "POST", "PUT", "g", "A B"}
	for range 2000 {
		var routes []api.Route
		for range next(12) {
			pattern := ""
			for range next(4) {
				pattern += parts[next(len(parts))]
			}
			routes = append(routes, api.Route{Method: methods[next(len(methods)-1)], Pattern: pattern, Handler: api.Handler(1 + next(4))})
			if r.take(routes) != api.OK && next(8) > 0 {
				routes = routes[:len(routes)-1]
			}
		}
		r.hold(t, routes, methods, paths)
	}
}

// P18.3: the order of the routes does not count, but for Route.

func TestOrderDoesNotCount(t *testing.T) {
	next, paths := numbers(5), somePaths()
	var routes []api.Route
	for i, p := range somePatterns {
		routes = append(routes, list("GET "+p, someMethods[i%5]+"X "+p, "POST "+p)...)
		if i%3 == 0 {
			routes = append(routes, list(" "+p)...)
		}
	}
	first, err := New(routes...)
	if err != api.OK {
		t.Fatal(int(err))
	}
	for range 50 {
		var order []int
		var moved []api.Route
		for i := range routes {
			order = slices.Insert(order, next(i+1), i)
		}
		for _, i := range order {
			moved = append(moved, routes[i])
		}
		second, err := New(moved...)
		if err != api.OK {
			t.Fatal(int(err))
		}
		for _, path := range paths {
			for _, method := range append(someMethods, "GETX") {
				a, b := first.Find(method, path), second.Find(method, path)
				if b.Route >= 0 {
					b.Route = order[b.Route]
				}
				if !sameMatch(a, b) {
					t.Fatalf("%s %s: %v, and %v", method, path, a, b)
				}
			}
		}
	}
}

// P18.3: what a pattern catches, put into its places, is the path's parts again.
func TestCaughtGivesThePathAgain(t *testing.T) {
	for _, pattern := range somePatterns {
		r := router(t, "GET "+pattern)
		for _, p := range somePaths() {
			m := r.Find("GET", p)
			if m.Status == 404 {
				continue
			}
			again := pattern
			for _, param := range m.Params {
				again = strings.ReplaceAll(again, "{"+param.Name+"}", param.Value)
				again = strings.ReplaceAll(again, "{"+param.Name+"...}", param.Value)
			}
			if !slices.Equal(path.Parts(again), path.Parts(p)) {
				t.Errorf("%q caught %v of %q", pattern, m.Params, p)
			}
		}
	}
}

// P18.3: a path that fits a pattern of plain parts alone is led to that shape.
func TestPlainPatternsAreFinest(t *testing.T) {
	for _, plain := range []string{"/", "/a", "/b", "/a/b", "/c/c", "/a/b/c"} {
		texts := []string{}
		for _, p := range somePatterns {
			if p != plain {
				texts = append(texts, " "+p)
			}
		}
		r := router(t, append(texts, "GET "+plain)...)
		wantFind(t, r, "GET", plain, 200, len(texts), "", "")
		wantFind(t, r, "PUT", plain+"/", 405, -1, "", "GET, HEAD, OPTIONS")
	}
}

// R2

func TestListsAreNotSharedOrKept(t *testing.T) {
	routes := append(make([]api.Route, 0, 8), list("GET /{x}/{y}", "POST /{z}/b")...)
	before := slices.Clone(routes[:3])
	r, _ := New(routes...)
	if !slices.Equal(routes[:3], before) {
		t.Error("the list that was handed in has changed")
	}
	clear(routes[:3])
	a, b := r.Find("GET", "/1/2"), r.Find("GET", "/1/2")
	a.Params[0] = api.Param{Name: "other"}
	a.Params = append(a.Params[:1], api.Param{})
	if told(b.Params) != "x=1 y=2" {
		t.Error("two answers share memory")
	}
	wantFind(t, r, "GET", "/1/2", 200, 0, "x=1 y=2", "")
	wantFind(t, r, "POST", "/1/b", 200, 1, "z=1", "")
}

func TestRoutersKnowNothingOfOneAnother(t *testing.T) {
	a, b := router(t, "GET /a"), router(t, "GET /b")
	wantFind(t, a, "GET", "/b", 404, -1, "", "")
	wantFind(t, b, "GET", "/b", 200, 0, "", "")
	wantFind(t, a, "GET", "/a", 200, 0, "", "")
}

// R1: great ones.

func TestGreatOnes(t *testing.T) {
	const n = 1 << 18
	long := strings.Repeat("/a", n)
	r := router(t, "GET "+long, "GET "+long+"/{x}", "GET "+long+"/b", "GET /{r...}", "GET /"+strings.Repeat("b", n))
	wantFind(t, r, "GET", long, 200, 0, "", "")
	wantFind(t, r, "GET", long+"/b/", 200, 2, "", "")
	wantFind(t, r, "GET", long+"/c", 200, 1, "x=c", "")
	wantFind(t, r, "GET", long+"/c/d", 200, 3, "r="+long[1:]+"/c/d", "")
	wantFind(t, r, "GET", "/"+strings.Repeat("b", n), 200, 4, "", "")
	wantFind(t, r, strings.Repeat("G", n), strings.Repeat("/", n), 405, -1, "", "GET, HEAD, OPTIONS")
	wantNew(t, api.ErrTwice, list("GET "+long+"/{x}", "GET "+long+"/{y}")...)
}
