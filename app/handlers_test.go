package app

import (
	"strconv"
	"strings"
	"testing"

	"ostler/api"
)

// P20.2: Files.

func TestFiles(t *testing.T) {
	s := snapOf(t, "/index.html", "i", "/w/index.html", "wi", "/w/a.txt", "a", "/w/d/index.html", "wdi", "/v/a.txt", "other", "/w v/b c.js", "js", "/a.txt", "top")
	a := appOf(t,
		filesAt("/f/{p...}", "/w"),
		filesAt("/g/{x}/{p...}", "/v"),
		filesAt("/one/{p}", "/w"),
		filesAt("/two/{p}/{q}", "/w"),
		filesAt("/mid/{p}/x", "/w"),
		filesAt("/same", "/w"),
		filesAt("/b/{p...}", "/w v"),
		filesAt("/top/{p...}", ""),
	)
	get := func(path string) api.Response { return a.Answer(s, ask("GET", path)) }
	wantFile(t, "rest", get("/f/a.txt"), "a", 2, "text/plain")
	wantFile(t, "index", get("/f/"), "wi", 1, "text/html")
	wantFile(t, "index without a slash", get("/f"), "wi", 1, "text/html")
	wantFile(t, "folder", get("/f/d/"), "wdi", 3, "text/html")
	wantFile(t, "deep", get("/f/d/index.html"), "wdi", 3, "text/html")
	// The last of what was caught is the file, of another root.
	wantFile(t, "last", get("/g/w/a.txt"), "other", 4, "text/plain")
	wantPlain(t, "last is nothing", get("/g/a.txt"), 404)
	wantFile(t, "catching", get("/one/a.txt"), "a", 2, "text/plain")
	wantFile(t, "catching, with a slash that it does not catch", get("/one/a.txt/"), "a", 2, "text/plain")
	wantFile(t, "second", get("/two/no/a.txt"), "a", 2, "text/plain")
	wantFile(t, "middle", get("/mid/a.txt/x"), "a", 2, "text/plain")
	// Nothing is caught.
	wantFile(t, "plain", get("/same"), "wi", 1, "text/html")
	wantFile(t, "plain, with a slash", get("/same/"), "wi", 1, "text/html")
	// The path is cleaned, and its escapes undone.
	wantFile(t, "cleaned", get("/f/./x/../%61.txt?/../"), "a", 2, "text/plain")
	wantFile(t, "blank", get("/b/b%20c.js"), "js", 5, "text/javascript")
	wantFile(t, "no root", get("/top/a.txt"), "top", 6, "text/plain")
	wantFile(t, "no root, deep", get("/top/w/a.txt"), "a", 2, "text/plain")
	wantFile(t, "no root, index", get("/top/"), "i", 0, "text/html")
	for _, path := range []string{"/f/b", "/f/a", "/f/v/a.txt", "/f/d/a.txt", "/g/x/index.html", "/one/b", "/b/b", "/b/b%2520c.js", "/top/b"} {
		wantPlain(t, path, get(path), 404)
	}
}

// The clean path is what a folder's own location is made of, not the target and not the file's path.
func TestFolderOfAnEscapedPath(t *testing.T) {
	s := snapOf(t, "/w/d e/index.html", "x", "/w/100%/b", "y")
	a := appOf(t, filesAt("/g/{p...}", "/w"), filesAt("/h/{x}/{p}", "/w"))
	for target, location := range map[string]string{
		"/g/d%20e":           "/g/d%20e/",
		"/g/./x/../d%20%65":  "/g/d%20e/",
		"/g/d%20e?q":         "/g/d%20e/",
		"/g/100%25":          "/g/100%25/",
		"//g//100%25":        "/g/100%25/",
		"/h/a~b%7e%3f/d%20e": "/h/a~b~%3F/d%20e/",
	} {
		wantPlain(t, target, a.Answer(s, ask("GET", target)), 301, "location", location)
		want(t, target, a.Answer(s, ask("HEAD", target)), api.Response{Status: 301, Fields: of("content-type", "text/plain", "location", location, "content-length", "4")})
	}
}

func TestFilesTakeTheMethodAndTheFields(t *testing.T) {
	s := exampleSnap(t)
	a := appOf(t, filesAt("/f/{p...}", "/w"), api.Route{Method: "POST", Pattern: "/p/{p...}", Handler: api.Files, Root: "/w"})
	for _, method := range []string{"POST", "PUT", "OPTIONS", "DELETE", "", "get"} {
		for _, path := range []string{"/f/a.txt", "/f/no", "/f/d"} {
			wantPlain(t, method+" "+path, a.Answer(s, ask(method, path, "if-none-match", "*")), 405, "allow", "GET, HEAD, OPTIONS")
		}
	}
	wantPlain(t, "POST", a.Answer(s, ask("POST", "/p/a.txt")), 405, "allow", "GET, HEAD, OPTIONS")
	wantPlain(t, "GET", a.Answer(s, ask("GET", "/p/a.txt")), 405, "allow", "OPTIONS, POST")
	stamps := []string{"etag", `"1-5"`, "last-modified", at}
	want(t, "known", a.Answer(s, ask("GET", "/f/a.txt", "if-none-match", `"x"`, "if-none-match", `"1-5"`)), api.Response{Status: 304, Fields: of(stamps...)})
	wantPlain(t, "unmet", a.Answer(s, ask("GET", "/f/a.txt", "if-match", `"2-5"`)), 412)
	wantPlain(t, "beyond", a.Answer(s, ask("GET", "/f/a.txt", "range", "bytes=5-")), 416, "content-range", "bytes */5")
	own := append([]string{"content-type", "text/plain"}, append(stamps, "accept-ranges", "bytes", "content-range", "bytes 1-2/5")...)
	wantBody(t, "range", a.Answer(s, ask("GET", "/f/a.txt", "range", "bytes=1-2")), 206, "el", own...)
	// A request's body and trailers are not looked at.
	r := ask("GET", "/f/a.txt", "range", "bytes=1-2")
	r.Body, r.Trailers = "body", of("range", "bytes=0-0")
	wantBody(t, "body", a.Answer(s, r), 206, "el", own...)
}

// P20.2: Echo.

func TestEcho(t *testing.T) {
	a := appOf(t, api.Route{Pattern: "/echo/{p...}", Handler: api.Echo, Root: "w"})
	for _, method := range []string{"POST", "GET", "PUT", "OPTIONS", "", "x"} {
		for _, body := range []string{"", "ab", "\x00\xff\r\n", "hello"} {
			r := ask(method, "/echo/a/b?q")
			r.Body = body
			wantBody(t, method, a.Answer(nil, r), 200, body, "content-type", "application/octet-stream")
			r.Trailers = []api.Field{}
			wantBody(t, method, a.Answer(nil, r), 200, body, "content-type", "application/octet-stream")
			r.Trailers = of("t", "1", "u", "", "t", "1")
			want(t, method, a.Answer(nil, r), api.Response{Status: 200, Fields: of("content-type", "application/octet-stream"), Body: body, Trailers: r.Trailers})
		}
	}
}

func TestEchoOfTheFirstContentType(t *testing.T) {
	a := appOf(t, exampleRoutes()...)
	for _, c := range []struct {
		kind   string
		fields []string
	}{
		{"x/y", []string{"content-type", "x/y"}},
		{"x/y", []string{"a", "b", "content-type", "x/y", "content-type", "z/z"}},
		{"", []string{"content-type", "", "content-type", "z/z"}},
		{" \t", []string{"content-type", " \t"}},
		{"z/z", []string{"Content-Type", "x/y", "content-type2", "x/y", "content-typ", "x/y", "content-type", "z/z"}},
		{"application/octet-stream", []string{"Content-Type", "x/y"}},
		{"application/octet-stream", []string{"", "content-type", "x", "y"}},
	} {
		r := ask("POST", "/echo", c.fields...)
		r.Body = "ab"
		wantBody(t, c.kind, a.Answer(nil, r), 200, "ab", "content-type", c.kind)
		// A trailer is no field of the head.
		r.Trailers = of("content-type", "t/t")
		want(t, c.kind, a.Answer(nil, r), api.Response{Status: 200, Fields: of("content-type", c.kind), Body: "ab", Trailers: r.Trailers})
	}
}

func TestEchoToHead(t *testing.T) {
	a := appOf(t, exampleRoutes()...)
	r := ask("HEAD", "/echo")
	want(t, "empty", a.Answer(nil, r), api.Response{Status: 200, Fields: of("content-type", "application/octet-stream", "content-length", "0")})
	r.Body = "abc"
	want(t, "body", a.Answer(nil, r), api.Response{Status: 200, Fields: of("content-type", "application/octet-stream", "content-length", "3")})
	// With trailers the length is not told, as it is not to GET.
	r.Trailers = of("t", "1")
	want(t, "trailers", a.Answer(nil, r), api.Response{Status: 200, Fields: of("content-type", "application/octet-stream")})
}

// P20.2: Hello.

func TestHello(t *testing.T) {
	a := appOf(t,
		api.Route{Pattern: "/", Handler: api.Hello},
		api.Route{Pattern: "/h", Handler: api.Hello, Root: "w"},
		api.Route{Pattern: "/h/{a}", Handler: api.Hello},
		api.Route{Pattern: "/h/{b}/{a}", Handler: api.Hello},
		api.Route{Pattern: "/r/{x1}/{rest...}", Handler: api.Hello},
	)
	for target, body := range map[string]string{
		"/":                "hello\n",
		"/h":               "hello\n",
		"/h/?a=2":          "hello\n",
		"/h/1":             "hello a=1\n",
		"/h/1/":            "hello a=1\n",
		"/h/x%20y":         "hello a=x y\n",
		"/h/%3D%26":        "hello a==&\n",
		"/h/1/2":           "hello b=1 a=2\n",
		"/h/1/../2/./3":    "hello b=2 a=3\n",
		"/r/1":             "hello x1=1 rest=\n",
		"/r/1/":            "hello x1=1 rest=\n",
		"/r/1/2":           "hello x1=1 rest=2\n",
		"/r/1/2//3/":       "hello x1=1 rest=2/3/\n",
		"/r/%80/%E4%25/%?": "",
		"/r/%80/%E4%25/?%": "hello x1=\x80 rest=\xE4%/\n",
	} {
		for _, method := range []string{"GET", "POST", "OPTIONS", ""} {
			r := ask(method, target, "content-type", "x/y")
			r.Body, r.Trailers = "ab", of("t", "1")
			if body == "" {
				wantPlain(t, target, a.Answer(nil, r), 400)
				continue
			}
			wantBody(t, method+" "+target, a.Answer(nil, r), 200, body, "content-type", "text/plain")
		}
		want(t, target, a.Answer(nil, ask("HEAD", target)), bare(a.Answer(nil, ask("GET", target))))
	}
}

// P20.2: Gone.

func TestGone(t *testing.T) {
	a := appOf(t, api.Route{Pattern: "/old/{p...}", Handler: api.Gone, Root: "w"})
	for _, method := range []string{"GET", "POST", "OPTIONS", "", "x"} {
		for _, target := range []string{"/old", "/old/", "/old/a/b?q"} {
			r := ask(method, target, "content-type", "x/y", "if-none-match", "*")
			r.Body, r.Trailers = "ab", of("t", "1")
			wantPlain(t, method+" "+target, a.Answer(exampleSnap(t), r), 410)
		}
	}
	want(t, "HEAD", a.Answer(nil, ask("HEAD", "/old")), api.Response{Status: 410, Fields: of("content-type", "text/plain", "content-length", "4")})
}

// Each route has a handler of its own, also the last of as many as there may be, and of one shape each method its own.
func TestEachRouteHasItsHandler(t *testing.T) {
	var routes []api.Route
	for i := range 256 {
		routes = append(routes, api.Route{Method: "M" + strconv.Itoa(i%3), Pattern: "/a" + strconv.Itoa(i/3), Handler: api.Handler(1 + i%4), Root: "/r" + strconv.Itoa(i)})
	}
	a := appOf(t, routes...)
	wanted := []int{405, 200, 200, 410}
	for i, route := range routes {
		if r := a.Answer(nil, ask(route.Method, route.Pattern)); r.Status != wanted[i%4] {
			t.Errorf("%d: %d", i, r.Status)
		}
	}
}

func TestEachRouteHasItsRoot(t *testing.T) {
	var routes []api.Route
	var texts []string
	for i := range 9 {
		routes = append(routes, api.Route{Method: "GET", Pattern: "/a" + strconv.Itoa(i) + "/{p...}", Handler: api.Files, Root: "/r" + strconv.Itoa(i)})
		texts = append(texts, "/r"+strconv.Itoa(i)+"/f.css", "body"+strconv.Itoa(i))
	}
	a, s := appOf(t, routes...), snapOf(t, texts...)
	for i := range routes {
		wantFile(t, strconv.Itoa(i), a.Answer(s, ask("GET", "/a"+strconv.Itoa(i)+"/f.css")), "body"+strconv.Itoa(i), i, "text/css")
	}
}

// R1: great ones.

func TestGreatOnes(t *testing.T) {
	const n = 1 << 20
	a := appOf(t, api.Route{Pattern: "/{p...}", Handler: api.Hello}, api.Route{Method: "PUT", Pattern: "/{p...}", Handler: api.Echo})
	long := strings.Repeat("a/", n)
	wantBody(t, "hello", a.Answer(nil, ask("GET", "/"+long)), 200, "hello p="+long+"\n", "content-type", "text/plain")
	r := ask("PUT", "/", "content-type", long)
	r.Body = long
	wantBody(t, "echo", a.Answer(nil, r), 200, long, "content-type", long)
	for range 10000 {
		r.Trailers = append(r.Trailers, api.Field{Name: "t", Value: "1"})
	}
	want(t, "trailers", a.Answer(nil, r), api.Response{Status: 200, Fields: of("content-type", long), Body: long, Trailers: r.Trailers})
	wantPlain(t, "above", a.Answer(nil, ask("GET", strings.Repeat("/..", n))), 400)
}
