package app

import (
	"fmt"
	"slices"
	"strconv"
	"testing"

	"ostler/api"
	"ostler/disk"
	"ostler/files"
	"ostler/msg"
	"ostler/path"
	"ostler/route"
)

// The plain reading of P20.1 to P20.3: the chapter's sentences, one behind the other.

type reading struct {
	routes []api.Route
	router *route.Router
}

func newReading(routes []api.Route) (reading, api.Errno) {
	router, err := route.New(routes...)
	for _, r := range routes {
		if err == api.OK && r.Handler == api.Files && r.Root != "" && !disk.Path(r.Root) {
			err = api.ErrPath
		}
	}
	return reading{routes, router}, err
}

func (r reading) answer(s *disk.Snap, q api.Request) api.Response {
	a := r.first(s, q)
	if a.Status == 204 || a.Status == 304 {
		return bare(a)
	}
	if len(a.Trailers) == 0 {
		a.Fields = append(slices.Clip(a.Fields), of("content-length", strconv.Itoa(len(a.Body)))...)
	}
	if q.Method == "HEAD" {
		return bare(a)
	}
	return a
}

// first is P20.2.
func (r reading) first(s *disk.Snap, q api.Request) api.Response {
	clean, _, err := path.Clean(q.Path)
	match := r.router.Find(q.Method, clean)
	switch {
	case q.Path == "*":
		return api.Response{Status: 204}
	case err != api.OK:
		return files.Plain(400)
	case match.Status == 404:
		return files.Plain(404)
	case match.Status == 405:
		return files.Plain(405, of("allow", match.Allow)...)
	case match.Route == -1:
		return api.Response{Status: 204, Fields: of("allow", match.Allow)}
	}
	rest, line, kind := "", "hello", "application/octet-stream"
	for _, p := range match.Params {
		rest = p.Value
		line += fmt.Sprintf(" %s=%s", p.Name, p.Value)
	}
	for _, f := range slices.Backward(q.Fields) {
		if f.Name == "content-type" {
			kind = f.Value
		}
	}
	switch led := r.routes[match.Route]; led.Handler {
	case api.Files:
		return files.Answer(s, led.Root, q.Method, clean, rest, q.Fields)
	case api.Echo:
		return api.Response{Status: 200, Fields: of("content-type", kind), Body: q.Body, Trailers: q.Trailers}
	case api.Hello:
		return api.Response{Status: 200, Fields: of("content-type", "text/plain"), Body: line + "\n"}
	}
	return files.Plain(410)
}

// scattered are routes and requests that are put together by chance.
type scattered func(n int) int

func (next scattered) pick(texts ...string) string { return texts[next(len(texts))] }

func (next scattered) route() api.Route {
	r := api.Route{
		Method:  next.pick("", "GET", "GET", "GET", "HEAD", "POST", "OPTIONS"),
		Handler: api.Handler(1 + next(4)),
		Root:    next.pick("", "/w", "/w", "/w", "/v", "/w/d"),
	}
	for range next(4) {
		r.Pattern += next.pick("/f", "/f", "/g", "/a.txt", "/d", "/{x}", "/{y}", "/{z}", "/{p...}")
	}
	if r.Pattern == "" {
		r.Pattern = "/"
	}
	if next(10) == 0 {
		r.Root = next.pick("w", "/", "/w/", "/../w")
	}
	return r
}

func (next scattered) request() api.Request {
	q := api.Request{
		Method: next.pick("GET", "GET", "GET", "GET", "HEAD", "HEAD", "POST", "OPTIONS", "PUT", ""),
		Body:   next.pick("", "ab", "hello", "\x00"),
	}
	for range next(5) {
		q.Path += next.pick("/f", "/f", "/g", "/a.txt", "/d", "/%64", "/", "/.", "/..", "/%2e", "/a b")
	}
	switch next(16) {
	case 0:
		q.Path = next.pick("*", "*", "", "a", "/%", "/f/%2f")
	case 1:
		q.Path += next.pick("?", "?q", "?/../%", "%")
	}
	for range next(4) {
		q.Fields = append(q.Fields, next.field())
	}
	for range next(3) * next(2) {
		q.Trailers = append(q.Trailers, next.field())
	}
	return q
}

func (next scattered) field() api.Field {
	name := next.pick("if-match", "if-none-match", "if-none-match", "if-range", "if-modified-since", "range", "content-type", "content-type", "Content-Type", "accept")
	switch name {
	case "range":
		return api.Field{Name: name, Value: next.pick("bytes=0-0", "bytes=-3", "bytes=1-,0-0", "bytes=9-", "bytes=x")}
	case "if-modified-since":
		return api.Field{Name: name, Value: next.pick(at, "Thu, 01 Jan 1970 00:00:00 GMT", "x")}
	}
	return api.Field{Name: name, Value: next.pick("*", `"1-5"`, `W/"1-5"`, `"2-1"`, "x/y", "")}
}

func TestScatteredRequests(t *testing.T) {
	next := scattered(numbers(20))
	// A disk whose paths are those that the routes above may come to.
	s := snapOf(t, "/w/a.txt", "hello", "/w/d/index.html", "x", "/w/index.html", "index", "/v/f/a.txt", "vfa", "/v/d", "", "/w/d/a.txt", "a", "/w/f/d/g/x", "deep", "/index.html", "top", "/f/index.html", "f")
	seen := map[int]int{}
	for range 3000 {
		var routes []api.Route
		for range 1 + next(8) {
			routes = append(routes, next.route())
			// Most lists are ones that may be.
			if _, err := newReading(routes); err != api.OK && next(20) > 0 {
				routes = routes[:len(routes)-1]
			}
		}
		plain, wanted := newReading(routes)
		a, err := New(routes...)
		if err != wanted || (a == nil) != (wanted != api.OK) {
			t.Fatalf("New(%q) = %v, %d, not %d", routes, a != nil, int(err), int(wanted))
		}
		if wanted != api.OK {
			seen[int(err)]++
			continue
		}
		for range 100 {
			q := next.request()
			r, wanted := a.Answer(s, q), plain.answer(s, q)
			if !same(r, wanted) {
				t.Fatalf("%q, %q: %v, not %v", routes, q, r, wanted)
			}
			holdWhatFollows(t, routes, q, r)
			seen[r.Status]++
		}
	}
	for _, n := range []int{200, 204, 206, 301, 304, 400, 404, 405, 410, 412, 416, int(api.ErrPath), int(api.ErrPattern), int(api.ErrTwice)} {
		if seen[n] < 10 {
			t.Errorf("%d is answered %d times alone", n, seen[n])
		}
	}
}

// holdWhatFollows holds an answer against P20.4, but for what HEAD and GET have in common.
func holdWhatFollows(t *testing.T, routes []api.Route, q api.Request, r api.Response) {
	t.Helper()
	length, said, err := msg.Length(r.Fields)
	head := q.Method == "HEAD"
	switch {
	case err != api.OK:
		t.Fatalf("%q, %q: %v: no length", routes, q, r)
	case head && (r.Body != "" || len(r.Trailers) > 0):
		t.Fatalf("%q, %q: %v: more than a head", routes, q, r)
	case !head && said && length != len(r.Body):
		t.Fatalf("%q, %q: %v: another length", routes, q, r)
	case !head && said == (len(r.Trailers) > 0 || r.Status == 204 || r.Status == 304):
		t.Fatalf("%q, %q: %v: a length is said: %v", routes, q, r, said)
	case len(msg.Strip(r.Fields)) != len(r.Fields):
		t.Fatalf("%q, %q: %v: a connection's own field", routes, q, r)
	}
}

// P20.4: where no route is of HEAD itself, and no ranges are asked for, HEAD is answered as GET.
func TestScatteredHeads(t *testing.T) {
	next := scattered(numbers(204))
	s := exampleSnap(t)
	for range 500 {
		var routes []api.Route
		for range 1 + next(6) {
			routes = append(routes, next.route())
			if _, err := newReading(routes); err != api.OK || routes[len(routes)-1].Method == "HEAD" {
				routes = routes[:len(routes)-1]
			}
		}
		a := appOf(t, routes...)
		for range 100 {
			q := next.request()
			q.Fields = slices.DeleteFunc(q.Fields, func(f api.Field) bool { return f.Name == "range" })
			q.Method = "GET"
			wanted := bare(a.Answer(s, q))
			q.Method = "HEAD"
			want(t, fmt.Sprintf("%q, %q", routes, q), a.Answer(s, q), wanted)
		}
	}
}
