package route

import (
	"regexp"
	"slices"
	"strings"
	"testing"

	"ostler/api"
)

// The plain reading of routes and paths: expressions, and texts that are sorted.

type reading struct {
	pattern, name, part *regexp.Regexp
	routes              []readRoute
}

type readRoute struct {
	method, pattern string
	path            *regexp.Regexp // of the paths that it fits, ending in a slash, with what it catches
	kinds           string         // a letter a part, the finest first, and the end
	shape           string
}

func newReading() *reading {
	return &reading{
		pattern: regexp.MustCompile(`^/$|^(?:/[!-.0-z|~]+|/\{[a-z][a-z0-9]*\})+$|^(?:/[!-.0-z|~]+|/\{[a-z][a-z0-9]*\})*/\{[a-z][a-z0-9]*\.\.\.\}$`),
		name:    regexp.MustCompile(`\{([a-z0-9]+)`),
		part:    regexp.MustCompile(`[^/]+`),
	}
}

// names are those of a pattern.
func (r *reading) names(pattern string) []string {
	var names []string
	for _, m := range r.name.FindAllStringSubmatch(pattern, -1) {
		names = append(names, m[1])
	}
	return names
}

// isPattern tells whether a text is a pattern.
func (r *reading) isPattern(s string) bool {
	if !r.pattern.MatchString(s) {
		return false
	}
	seen := map[string]int{}
	for _, name := range r.names(s) {
		seen[name]++
	}
	for _, n := range seen {
		if n > 1 {
			return false
		}
	}
	return true
}

func (r *reading) read(method, pattern string) readRoute {
	x := readRoute{method: method, pattern: pattern}
	expression := "^/"
	for _, part := range r.part.FindAllString(pattern, -1) {
		switch {
		case strings.HasSuffix(part, "...}"):
			expression += "((?:[^/]+/)*)"
			x.kinds += "d"
			x.shape += "/{...}"
		case strings.HasPrefix(part, "{"):
			expression += "([^/]+)/"
			x.kinds += "b"
			x.shape += "/{}"
		default:
			expression += regexp.QuoteMeta(part) + "/"
			x.kinds += "a"
			x.shape += "/" + part
		}
	}
	x.path = regexp.MustCompile("(?s)" + expression + "$")
	x.kinds += "c"
	return x
}

// take makes the reading one of these routes, or tells what is wrong with them.
func (r *reading) take(routes []api.Route) api.Errno {
	r.routes = nil
	if len(routes) > 256 {
		return api.ErrMany
	}
	token := regexp.MustCompile("^[-A-Za-z0-9!#$%&'*+.^_`|~]*$")
	for _, route := range routes {
		if !r.isPattern(route.Pattern) || !token.MatchString(route.Method) || route.Handler < 1 || route.Handler > 4 {
			return api.ErrPattern
		}
		x := r.read(route.Method, route.Pattern)
		for _, y := range r.routes {
			if x.method == y.method && x.shape == y.shape {
				return api.ErrTwice
			}
		}
		r.routes = append(r.routes, x)
	}
	return api.OK
}

// finest is the numbers of the routes of the finest shape that fits a path.
func (r *reading) finest(path string) []int {
	var fit []int
	for i, x := range r.routes {
		if x.path.MatchString(strings.TrimSuffix(path, "/") + "/") {
			fit = append(fit, i)
		}
	}
	slices.SortStableFunc(fit, func(i, j int) int { return strings.Compare(r.routes[i].kinds, r.routes[j].kinds) })
	for n, i := range fit {
		if r.routes[i].shape != r.routes[fit[0]].shape {
			return fit[:n]
		}
	}
	return fit
}

func (r *reading) find(method, path string) api.Match {
	fit := r.finest(path)
	if len(fit) == 0 {
		return api.Match{Status: 404, Route: -1}
	}
	wanted := []string{method, ""}
	if method == "HEAD" {
		wanted = []string{"HEAD", "GET", ""}
	}
	for _, w := range wanted {
		for _, i := range fit {
			if r.routes[i].method == w {
				return api.Match{Status: 200, Route: i, Params: r.params(r.routes[i], path)}
			}
		}
	}
	m := api.Match{Status: 405, Route: -1, Allow: r.allow(fit)}
	if method == "OPTIONS" {
		m.Status = 200
	}
	return m
}

func (r *reading) params(x readRoute, path string) []api.Param {
	var params []api.Param
	values := x.path.FindStringSubmatch(strings.TrimSuffix(path, "/") + "/")[1:]
	for i, name := range r.names(x.pattern) {
		value := values[i]
		if !strings.HasSuffix(path, "/") {
			value = strings.TrimSuffix(value, "/")
		}
		params = append(params, api.Param{Name: name, Value: value})
	}
	return params
}

func (r *reading) allow(fit []int) string {
	methods := map[string]int{"OPTIONS": 1}
	for _, i := range fit {
		methods[r.routes[i].method]++
		if r.routes[i].method == "GET" {
			methods["HEAD"]++
		}
	}
	var list []string
	for m := range methods {
		list = append(list, m)
	}
	slices.Sort(list)
	return strings.Join(list, ", ")
}

// hold holds New and Find against the reading; one fault of a test is enough.
func (r *reading) hold(t *testing.T, routes []api.Route, methods, paths []string) {
	t.Helper()
	if t.Failed() {
		return
	}
	want := r.take(routes)
	router, err := New(routes...)
	if err != want || (router == nil) != (err != api.OK) {
		t.Errorf("New(%v) = %v, %d, not %d", routes, router, int(err), int(want))
	}
	if want != api.OK || err != api.OK {
		return
	}
	for _, path := range paths {
		for _, method := range methods {
			if got, want := router.Find(method, path), r.find(method, path); !sameMatch(got, want) {
				t.Errorf("of %v Find(%q, %q) = %v, not %v", routes, method, path, got, want)
				return
			}
		}
	}
}

func sameMatch(a, b api.Match) bool {
	return a.Status == b.Status && a.Route == b.Route && a.Allow == b.Allow && slices.Equal(a.Params, b.Params)
}
