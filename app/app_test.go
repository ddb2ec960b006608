package app

import (
	"slices"
	"strconv"
	"strings"
	"testing"

	"ostler/api"
	"ostler/disk"
	"ostler/files"
	"ostler/msg"
)

const at = "Sun, 06 Nov 1994 08:49:37 GMT" // the time of the example's first file

// numbers are some that look scattered, the same ones for the same seed.
func numbers(seed uint64) func(n int) int {
	return func(n int) int {
		seed = seed*6364136223846793005 + 1442695040888963407
		return int(seed>>33) % n
	}
}

// of is fields, each a name and a value.
func of(texts ...string) []api.Field {
	var fields []api.Field
	for i := 0; i+1 < len(texts); i += 2 {
		fields = append(fields, api.Field{Name: texts[i], Value: texts[i+1]})
	}
	return fields
}

func appOf(t *testing.T, routes ...api.Route) *App {
	t.Helper()
	a, err := New(routes...)
	if a == nil || err != api.OK {
		t.Fatal("no app", int(err))
	}
	return a
}

// exampleRoutes are the chapter's.
func exampleRoutes() []api.Route {
	return []api.Route{
		{Method: "GET", Pattern: "/f/{p...}", Handler: api.Files, Root: "/w"},
		{Pattern: "/echo", Handler: api.Echo},
		{Method: "GET", Pattern: "/h/{a}/{b}", Handler: api.Hello},
		{Method: "GET", Pattern: "/old", Handler: api.Gone},
	}
}

// snapOf is a disk of files, each a path and a body, with their places as times.
func snapOf(t *testing.T, texts ...string) *disk.Snap {
	t.Helper()
	d := disk.New()
	for i := 0; i+1 < len(texts); i += 2 {
		if err := d.Put(texts[i], texts[i+1], i/2); err != api.OK {
			t.Fatal(texts[i], int(err))
		}
	}
	return d.Snap()
}

// exampleSnap is the disk of chapter 19.
func exampleSnap(t *testing.T) *disk.Snap {
	t.Helper()
	d := disk.New()
	if d.Put("/w/a.txt", "hello", 784111777) != api.OK || d.Put("/w/d/index.html", "x", 0) != api.OK {
		t.Fatal("no disk")
	}
	return d.Snap()
}

func ask(method, path string, fields ...string) api.Request {
	return api.Request{Method: method, Scheme: "http", Authority: "h", Path: path, Fields: of(fields...)}
}

func same(a, b api.Response) bool {
	return a.Status == b.Status && slices.Equal(a.Fields, b.Fields) && a.Body == b.Body && slices.Equal(a.Trailers, b.Trailers)
}

func want(t *testing.T, name string, r, wanted api.Response) {
	t.Helper()
	if !same(r, wanted) {
		t.Errorf("%s: %d %.400q %.200q %.200q, not %d %.400q %.200q %.200q", name, r.Status, r.Fields, r.Body, r.Trailers, wanted.Status, wanted.Fields, wanted.Body, wanted.Trailers)
	}
}

// wantBody holds an answer that has a body against it and the fields ahead of its length.
func wantBody(t *testing.T, name string, r api.Response, status int, body string, fields ...string) {
	t.Helper()
	fields = append(slices.Clone(fields), "content-length", strconv.Itoa(len(body)))
	want(t, name, r, api.Response{Status: status, Fields: of(fields...), Body: body})
}

// wantPlain holds an answer against a short one.
func wantPlain(t *testing.T, name string, r api.Response, status int, more ...string) {
	t.Helper()
	wantBody(t, name, r, status, strconv.Itoa(status)+"\n", append([]string{"content-type", "text/plain"}, more...)...)
}

// wantFile holds an answer against a file of snapOf: its body, and its place.
func wantFile(t *testing.T, name string, r api.Response, body string, place int, kind string) {
	t.Helper()
	etag := `"` + strconv.Itoa(place+1) + "-" + strconv.Itoa(len(body)) + `"`
	day := "Thu, 01 Jan 1970 00:00:0" + strconv.Itoa(place) + " GMT"
	wantBody(t, name, r, 200, body, "content-type", kind, "etag", etag, "last-modified", day, "accept-ranges", "bytes")
}

// bare is an answer without what HEAD has not.
func bare(r api.Response) api.Response { return api.Response{Status: r.Status, Fields: r.Fields} }

// The chapter's examples.

func TestExamples(t *testing.T) {
	a, s := appOf(t, exampleRoutes()...), exampleSnap(t)
	file := []string{"content-type", "text/plain", "etag", `"1-5"`, "last-modified", at, "accept-ranges", "bytes"}
	wantBody(t, "file", a.Answer(s, ask("GET", "/f/a.txt")), 200, "hello", file...)
	want(t, "head", a.Answer(s, ask("HEAD", "/f/a.txt")), api.Response{Status: 200, Fields: of(append(file, "content-length", "5")...)})
	echo := api.Request{Method: "POST", Path: "/echo", Body: "ab", Fields: of("content-type", "x/y"), Trailers: of("t", "1")}
	want(t, "echo", a.Answer(s, echo), api.Response{Status: 200, Fields: of("content-type", "x/y"), Body: "ab", Trailers: of("t", "1")})
	wantBody(t, "hello", a.Answer(s, ask("GET", "/h/1/%32")), 200, "hello a=1 b=2\n", "content-type", "text/plain")
	wantPlain(t, "gone", a.Answer(s, ask("GET", "/old")), 410)
	wantPlain(t, "escape", a.Answer(s, ask("GET", "/%")), 400)
	wantPlain(t, "no route", a.Answer(s, ask("GET", "/no")), 404)
	wantPlain(t, "method", a.Answer(s, ask("POST", "/h/1/2")), 405, "allow", "GET, HEAD, OPTIONS")
	want(t, "options", a.Answer(s, ask("OPTIONS", "/old")), api.Response{Status: 204, Fields: of("allow", "GET, HEAD, OPTIONS")})
	want(t, "star", a.Answer(s, ask("OPTIONS", "*")), api.Response{Status: 204})
}

// P20.1

func wantNew(t *testing.T, wanted api.Errno, routes ...api.Route) {
	t.Helper()
	a, err := New(routes...)
	if err != wanted || (a == nil) != (wanted != api.OK) {
		t.Errorf("New(%.300q) = %v, %d, not %d", routes, a != nil, int(err), int(wanted))
	}
}

func filesAt(pattern, root string) api.Route {
	return api.Route{Pattern: pattern, Handler: api.Files, Root: root}
}

func TestNew(t *testing.T) {
	wantNew(t, api.OK)
	wantNew(t, api.OK, exampleRoutes()...)
	wantNew(t, api.ErrPattern, filesAt("x", "/w"))
	wantNew(t, api.ErrPattern, api.Route{Method: "G T", Pattern: "/", Handler: api.Echo})
	wantNew(t, api.ErrPattern, api.Route{Pattern: "/"})
	wantNew(t, api.ErrPattern, api.Route{Pattern: "/", Handler: 5})
	wantNew(t, api.ErrTwice, filesAt("/{x}", "/w"), filesAt("/{y}", "/v"))
}

func TestRoots(t *testing.T) {
	long := strings.Repeat("/ab", 85)
	for _, root := range []string{"", "/w", "/w/v", "/w v", "/...", "/.w", "/%41", "/{p}", "/~", long, "/" + strings.Repeat("a", 254)} {
		wantNew(t, api.OK, filesAt("/", root))
		wantNew(t, api.OK, append(exampleRoutes(), filesAt("/", root))...)
	}
	for _, root := range []string{"w", "/", "/w/", "//", "//w", "/w//v", "/.", "/w/..", "/./w", "/../w", " ", " /w", ".", "..", "*", long + "/", long + "a", "/\x1f", "/\x7f", "/\x80", "/w\x00", "\u00e4"} {
		wantNew(t, api.ErrPath, filesAt("/", root))
		wantNew(t, api.ErrPath, append(exampleRoutes(), filesAt("/", root))...)
		wantNew(t, api.ErrPath, append([]api.Route{filesAt("/", root)}, exampleRoutes()...)...)
		// Of another handler the root does not count.
		for _, h := range []api.Handler{api.Echo, api.Hello, api.Gone} {
			wantNew(t, api.OK, api.Route{Pattern: "/", Handler: h, Root: root})
		}
	}
}

func TestEachByteOfRoot(t *testing.T) {
	for c := range 256 {
		wanted := api.ErrPath
		if 0x20 <= c && c <= 0x7e {
			wanted = api.OK
		}
		wantNew(t, wanted, filesAt("/", "/a"+string([]byte{byte(c)})+"b"))
	}
}

// The router's error is told ahead of a root's, wherever both stand.
func TestErrorsOfNewInOrder(t *testing.T) {
	bad := filesAt("/bad", "w")
	wantNew(t, api.ErrPattern, bad, filesAt("x", "/w"))
	wantNew(t, api.ErrPattern, filesAt("x", "/w"), bad)
	wantNew(t, api.ErrPattern, filesAt("x", "w"))
	wantNew(t, api.ErrTwice, bad, bad)
	wantNew(t, api.ErrTwice, bad, filesAt("/", "/w"), filesAt("/", "/w"))
	var routes []api.Route
	for i := range 257 {
		routes = append(routes, filesAt("/a"+strconv.Itoa(i), "/w"))
	}
	wantNew(t, api.OK, routes[:256]...)
	wantNew(t, api.ErrMany, routes...)
	routes[0].Root = "w"
	wantNew(t, api.ErrPath, routes[:256]...)
	wantNew(t, api.ErrMany, routes...)
	routes[0].Root, routes[255].Root = "/w", "w"
	wantNew(t, api.ErrPath, routes[:256]...)
}

// P20.2: ahead of the router.

func TestNilApp(t *testing.T) {
	var a *App
	for _, method := range []string{"GET", "OPTIONS", "POST", "", "head"} {
		for _, path := range []string{"*", "/", "", "/%", "/f/a.txt"} {
			for _, s := range []*disk.Snap{nil, exampleSnap(t)} {
				wantPlain(t, method+" "+path, a.Answer(s, ask(method, path)), 500)
				want(t, "HEAD "+path, a.Answer(s, ask("HEAD", path)), api.Response{Status: 500, Fields: of("content-type", "text/plain", "content-length", "4")})
			}
		}
	}
}

// One that New did not make has no routes.
func TestAppWithoutRoutes(t *testing.T) {
	for _, a := range []*App{{}, appOf(t), appOf(t, []api.Route{}...)} {
		for _, method := range []string{"GET", "OPTIONS", ""} {
			wantPlain(t, method, a.Answer(nil, ask(method, "/")), 404)
			wantPlain(t, method, a.Answer(nil, ask(method, "/..")), 400)
			want(t, method, a.Answer(nil, ask(method, "*")), api.Response{Status: 204})
		}
	}
}

func TestStar(t *testing.T) {
	a := appOf(t, api.Route{Pattern: "/{p...}", Handler: api.Echo})
	for _, method := range []string{"OPTIONS", "GET", "HEAD", "POST", ""} {
		r := ask(method, "*", "content-type", "x/y")
		r.Body, r.Trailers = "ab", of("t", "1")
		want(t, method, a.Answer(exampleSnap(t), r), api.Response{Status: 204})
	}
	for _, path := range []string{"**", "*/", "* ", " *", "*?", "*?q"} {
		wantPlain(t, path, a.Answer(nil, ask("OPTIONS", path)), 400)
	}
	wantBody(t, "/*", a.Answer(nil, ask("OPTIONS", "/*")), 200, "", "content-type", "application/octet-stream")
}

func TestPathsThatAreRefused(t *testing.T) {
	routes := append(exampleRoutes(), api.Route{Pattern: "/{p...}", Handler: api.Echo})
	for _, a := range []*App{appOf(t), appOf(t, routes...)} {
		for _, path := range []string{"", "a", "?", "?/", "http://h/", "/%", "/%4", "/%g1", "/%2f", "/%2F", "/%00", "/%1f", "/%7f", "/..", "/a/../..", "/%2e%2e", "/f/../../f/a.txt", "\x00", "/a%?"} {
			for _, method := range []string{"GET", "OPTIONS", "POST", ""} {
				wantPlain(t, method+" "+path, a.Answer(exampleSnap(t), ask(method, path)), 400)
			}
			want(t, "HEAD "+path, a.Answer(nil, ask("HEAD", path)), bare(a.Answer(nil, ask("GET", path))))
		}
	}
}

// P20.2: by the router.

func TestNoRoute(t *testing.T) {
	a := appOf(t, exampleRoutes()...)
	for _, path := range []string{"/", "/no", "/ec", "/echo/x", "/echoo", "/h", "/h/1", "/h/1/2/3", "/F/a.txt", "/?/echo", "/old/../f2", "/%65chO"} {
		for _, method := range []string{"GET", "OPTIONS", "POST", "", "get"} {
			wantPlain(t, method+" "+path, a.Answer(exampleSnap(t), ask(method, path)), 404)
		}
		want(t, "HEAD "+path, a.Answer(nil, ask("HEAD", path)), api.Response{Status: 404, Fields: of("content-type", "text/plain", "content-length", "4")})
	}
}

func TestOtherMethods(t *testing.T) {
	a := appOf(t,
		filesAt("/any/{p...}", "/w"),
		api.Route{Method: "PUT", Pattern: "/x", Handler: api.Echo},
		api.Route{Method: "GET", Pattern: "/x", Handler: api.Echo},
		api.Route{Method: "M-SEARCH", Pattern: "/x", Handler: api.Echo},
		api.Route{Method: "POST", Pattern: "/y/{z}", Handler: api.Gone},
		api.Route{Method: "OPTIONS", Pattern: "/z", Handler: api.Hello},
	)
	for _, c := range [][2]string{{"/x", "GET, HEAD, M-SEARCH, OPTIONS, PUT"}, {"/x/?q", "GET, HEAD, M-SEARCH, OPTIONS, PUT"}, {"/y/1", "OPTIONS, POST"}} {
		for _, method := range []string{"DELETE", "", "get", "options", "PUT "} {
			wantPlain(t, method+" "+c[0], a.Answer(nil, ask(method, c[0])), 405, "allow", c[1])
		}
		want(t, "OPTIONS "+c[0], a.Answer(nil, ask("OPTIONS", c[0])), api.Response{Status: 204, Fields: of("allow", c[1])})
	}
	want(t, "HEAD", a.Answer(nil, ask("HEAD", "/y/1")), api.Response{Status: 405, Fields: of("content-type", "text/plain", "allow", "OPTIONS, POST", "content-length", "4")})
	// A route that takes OPTIONS answers it itself.
	wantBody(t, "own", a.Answer(nil, ask("OPTIONS", "/z")), 200, "hello\n", "content-type", "text/plain")
	wantPlain(t, "any", a.Answer(exampleSnap(t), ask("OPTIONS", "/any/a.txt")), 405, "allow", "GET, HEAD, OPTIONS")
}

// P20.3

func TestLengthAndBodyOfEachStatus(t *testing.T) {
	a, s := appOf(t, exampleRoutes()...), exampleSnap(t)
	for _, c := range []struct {
		status int
		body   string
		ask    api.Request
	}{
		{200, "hello", ask("GET", "/f/a.txt")},
		{200, "", ask("GET", "/echo")},
		{200, "hello a=1 b=2\n", ask("GET", "/h/1/2")},
		{206, "el", ask("GET", "/f/a.txt", "range", "bytes=1-2")},
		{301, "301\n", ask("GET", "/f/d")},
		{400, "400\n", ask("GET", "/..")},
		{404, "404\n", ask("GET", "/f/no")},
		{404, "404\n", ask("GET", "/no")},
		{405, "405\n", ask("POST", "/old")},
		{410, "410\n", ask("GET", "/old")},
		{412, "412\n", ask("GET", "/f/a.txt", "if-match", `"x"`)},
		{416, "416\n", ask("GET", "/f/a.txt", "range", "bytes=9-")},
	} {
		r := a.Answer(s, c.ask)
		last := r.Fields[len(r.Fields)-1]
		count := 0
		for _, f := range r.Fields {
			if f.Name == "content-length" {
				count++
			}
		}
		if r.Status != c.status || r.Body != c.body || count != 1 || last != (api.Field{Name: "content-length", Value: strconv.Itoa(len(c.body))}) {
			t.Errorf("%d: %v", c.status, r)
		}
	}
	// Without a body there is no length.
	known := of("etag", `"1-5"`, "last-modified", at)
	for _, method := range []string{"GET", "HEAD"} {
		want(t, method, a.Answer(s, ask(method, "/f/a.txt", "if-none-match", "*")), api.Response{Status: 304, Fields: known})
		want(t, method, a.Answer(s, ask(method, "*")), api.Response{Status: 204})
	}
	want(t, "OPTIONS", a.Answer(s, ask("OPTIONS", "/f/a.txt")), api.Response{Status: 204, Fields: of("allow", "GET, HEAD, OPTIONS")})
}

func TestSeveralRangesHaveALength(t *testing.T) {
	a, s := appOf(t, exampleRoutes()...), exampleSnap(t)
	r := a.Answer(s, ask("GET", "/f/a.txt", "range", "bytes=0-0,-1"))
	body := files.Answer(s, "/w", "GET", "/f/a.txt", "a.txt", of("range", "bytes=0-0,-1")).Body
	wantBody(t, "parts", r, 206, body, "content-type", "multipart/byteranges; boundary=part0", "etag", `"1-5"`, "last-modified", at, "accept-ranges", "bytes")
}

// P20.4

func TestHeadIsAnsweredAsGet(t *testing.T) {
	a, s := appOf(t, exampleRoutes()...), exampleSnap(t)
	for _, path := range []string{"/f/a.txt", "/f/d", "/f/d/", "/f/no", "/f", "/f/", "/echo", "/h/1/2", "/old", "/no", "/..", "*", ""} {
		for _, fields := range [][]string{nil, {"if-none-match", `"1-5"`}, {"if-match", `"x"`}, {"if-modified-since", at}, {"content-type", "x/y"}} {
			get, head := ask("GET", path, fields...), ask("HEAD", path, fields...)
			for _, trailers := range [][]api.Field{nil, of("t", "1")} {
				get.Body, get.Trailers = "ab", trailers
				head.Body, head.Trailers = "ab", trailers
				want(t, path, a.Answer(s, head), bare(a.Answer(s, get)))
			}
		}
	}
}

// A field that asks for ranges is for GET alone (P19.3), so the whole file is what HEAD tells of.
func TestHeadHasNoRanges(t *testing.T) {
	a, s := appOf(t, exampleRoutes()...), exampleSnap(t)
	whole := bare(a.Answer(s, ask("GET", "/f/a.txt")))
	for _, value := range []string{"bytes=1-2", "bytes=9-", "bytes=0-0,-1"} {
		want(t, value, a.Answer(s, ask("HEAD", "/f/a.txt", "range", value)), whole)
	}
}

// A snapshot is answered as it was, whatever came between.
func TestTheSameIsAnsweredTheSame(t *testing.T) {
	a, d := appOf(t, exampleRoutes()...), disk.New()
	d.Put("/w/a.txt", "hello", 0)
	then := d.Snap()
	d.Put("/w/a.txt", "other", 1)
	now := d.Snap()
	d.Remove("/w/a.txt")
	for range 3 {
		wantFile(t, "then", a.Answer(then, ask("GET", "/f/a.txt")), "hello", 0, "text/plain")
		wantFile(t, "now", a.Answer(now, ask("GET", "/f/a.txt")), "other", 1, "text/plain")
		wantPlain(t, "later", a.Answer(d.Snap(), ask("GET", "/f/a.txt")), 404)
		wantPlain(t, "none", a.Answer(nil, ask("GET", "/f/a.txt")), 404)
	}
}

// What a request has beside what the chapter names does not count.
func TestWhatDoesNotCount(t *testing.T) {
	a, s := appOf(t, exampleRoutes()...), exampleSnap(t)
	for _, path := range []string{"/f/a.txt", "/h/1/2", "/old", "/no", "/echo"} {
		wanted := a.Answer(s, ask("GET", path))
		other := ask("GET", path+"?q=/../%", "accept", "*/*", "connection", "close", "content-length", "7", "allow", "x", "Content-Type", "a/b")
		other.Scheme, other.Authority = "https", "other"
		want(t, path, a.Answer(s, other), wanted)
		if path != "/echo" {
			other.Body, other.Trailers = "body", of("t", "1")
			want(t, path, a.Answer(s, other), wanted)
		}
	}
}

// R2

func TestAppsKnowNothingOfOneAnother(t *testing.T) {
	a := appOf(t, api.Route{Pattern: "/a", Handler: api.Hello})
	b := appOf(t, api.Route{Pattern: "/b", Handler: api.Gone})
	wantPlain(t, "a", a.Answer(nil, ask("GET", "/b")), 404)
	wantPlain(t, "b", b.Answer(nil, ask("GET", "/a")), 404)
	wantPlain(t, "b", b.Answer(nil, ask("GET", "/b")), 410)
	wantBody(t, "a", a.Answer(nil, ask("GET", "/a")), 200, "hello\n", "content-type", "text/plain")
}

func TestRoutesAreNotKeptOrChanged(t *testing.T) {
	list := append(make([]api.Route, 0, 8), exampleRoutes()...)
	behind := list[:5]
	kept := slices.Clone(behind)
	a, s := appOf(t, list...), exampleSnap(t)
	if !slices.Equal(behind, kept) {
		t.Error("the list is written into")
	}
	before := a.Answer(s, ask("GET", "/f/a.txt"))
	list[0] = api.Route{Method: "GET", Pattern: "/f/{p...}", Handler: api.Gone, Root: "/v"}
	want(t, "later", a.Answer(s, ask("GET", "/f/a.txt")), before)
}

func TestRequestsAreNotKeptOrChanged(t *testing.T) {
	a, s := appOf(t, exampleRoutes()...), exampleSnap(t)
	for _, path := range []string{"/echo", "/f/a.txt", "/h/1/2", "/no"} {
		r := ask("GET", path)
		fields, trailers := append(of("content-type", "x/y"), make([]api.Field, 4)...), append(of("t", "1", "u", "2"), make([]api.Field, 4)...)
		keptFields, keptTrailers := slices.Clone(fields), slices.Clone(trailers)
		r.Fields, r.Trailers = fields[:1], trailers[:2]
		first, second := a.Answer(s, r), a.Answer(s, r)
		wanted := api.Response{Status: second.Status, Fields: slices.Clone(second.Fields), Body: second.Body, Trailers: slices.Clone(second.Trailers)}
		spoil(first.Fields)
		spoil(first.Trailers)
		if !slices.Equal(fields, keptFields) || !slices.Equal(trailers, keptTrailers) {
			t.Error("the request is written into", fields, trailers)
		}
		spoil(fields)
		spoil(trailers)
		want(t, path, second, wanted)
	}
}

// spoil writes into a list and its spare room.
func spoil(list []api.Field) {
	list = list[:cap(list)]
	for i := range list {
		list[i] = api.Field{Name: "spoiled", Value: "spoiled"}
	}
}

func TestNoConnectionsOwnFields(t *testing.T) {
	routes := append(exampleRoutes(), filesAt("/any/{p...}", "/w"))
	a, s := appOf(t, routes...), exampleSnap(t)
	own := []string{"connection", "close", "keep-alive", "1", "proxy-connection", "x", "transfer-encoding", "chunked", "upgrade", "h2c", "content-length", "9"}
	for _, method := range []string{"GET", "HEAD", "POST", "OPTIONS"} {
		for _, path := range []string{"/f/a.txt", "/f/d", "/any/a.txt", "/echo", "/h/1/2", "/old", "/no", "/..", "*"} {
			r := a.Answer(s, ask(method, path, own...))
			if len(msg.Strip(r.Fields)) != len(r.Fields) {
				t.Errorf("%s %s: %v", method, path, r)
			}
		}
	}
}
