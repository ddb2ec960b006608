package files

import (
	"math"
	"regexp"
	"slices"
	"strconv"
	"strings"
	"testing"

	"ostler/api"
	"ostler/disk"
)

const (
	at     = "Sun, 06 Nov 1994 08:49:37 GMT" // the time of the example's first file
	before = "Sun, 06 Nov 1994 08:49:36 GMT"
	after  = "Sun, 06 Nov 1994 08:49:38 GMT"
)

// numbers are some that look scattered, the same ones for the same seed.
func numbers(seed uint64) func(n int) int {
	return func(n int) int {
		seed = seed*6364136223846793005 + 1442695040888963407
		return int(seed>>33) % n
	}
}

// eachText calls a function with each text of some pieces, at most so many of them.
func eachText(pieces []string, most int, do func(s string)) {
	var grow func(s string, left int)
	grow = func(s string, left int) {
		do(s)
		for _, piece := range pieces {
			if left > 0 {
				grow(s+piece, left-1)
			}
		}
	}
	grow("", most)
}

// of is fields, each a name and a value.
func of(texts ...string) []api.Field {
	var fields []api.Field
	for i := 0; i+1 < len(texts); i += 2 {
		fields = append(fields, api.Field{Name: texts[i], Value: texts[i+1]})
	}
	return fields
}

// snapOf is a disk of files of these paths, each of which has its path as its body, and their places as times.
func snapOf(t *testing.T, paths ...string) *disk.Snap {
	t.Helper()
	d := disk.New()
	for i, path := range paths {
		if err := d.Put(path, path, i); err != api.OK {
			t.Fatal(path, err)
		}
	}
	return d.Snap()
}

// example is the chapter's disk.
func example(t *testing.T) *disk.Snap {
	t.Helper()
	d := disk.New()
	if d.Put("/w/a.txt", "hello", 784111777) != api.OK || d.Put("/w/d/index.html", "x", 0) != api.OK {
		t.Fatal("no disk")
	}
	return d.Snap()
}

func same(a, b api.Response) bool {
	return a.Status == b.Status && slices.Equal(a.Fields, b.Fields) && a.Body == b.Body && slices.Equal(a.Trailers, b.Trailers)
}

func wantResponse(t *testing.T, name string, r api.Response, status int, body string, fields ...string) {
	t.Helper()
	if !same(r, api.Response{Status: status, Fields: of(fields...), Body: body}) {
		t.Errorf("%s: %d %.400q %.200q %v, not %d %.400q %.200q", name, r.Status, r.Fields, r.Body, r.Trailers, status, fields, body)
	}
}

// wantPlain holds an answer against a short one.
func wantPlain(t *testing.T, name string, r api.Response, status int, more ...string) {
	t.Helper()
	fields := append([]string{"content-type", "text/plain"}, more...)
	wantResponse(t, name, r, status, strconv.Itoa(status)+"\n", fields...)
}

// wantHello holds an answer against all of the example's first file.
func wantHello(t *testing.T, name string, r api.Response) {
	t.Helper()
	wantResponse(t, name, r, 200, "hello", "content-type", "text/plain", "etag", `"1-5"`, "last-modified", at, "accept-ranges", "bytes")
}

// wantFile holds an answer against all of a file of snapOf: the one of that path, and of that place.
func wantFile(t *testing.T, name string, r api.Response, path string, place int, kind string) {
	t.Helper()
	etag := `"` + strconv.Itoa(place+1) + "-" + strconv.Itoa(len(path)) + `"`
	day := "Thu, 01 Jan 1970 00:00:0" + strconv.Itoa(place) + " GMT"
	wantResponse(t, name, r, 200, path, "content-type", kind, "etag", etag, "last-modified", day, "accept-ranges", "bytes")
}

// The chapter's examples.

func TestExamples(t *testing.T) {
	s := example(t)
	own := []string{"content-type", "text/plain", "etag", `"1-5"`, "last-modified", at, "accept-ranges", "bytes"}
	get := func(path, rest string, fields ...string) api.Response {
		return Answer(s, "/w", "GET", path, rest, of(fields...))
	}
	wantResponse(t, "whole", get("/f/a.txt", "a.txt"), 200, "hello", own...)
	wantResponse(t, "part", get("/f/a.txt", "a.txt", "range", "bytes=1-2"), 206, "el", append(own, "content-range", "bytes 1-2/5")...)
	wantResponse(t, "none", get("/f/a.txt", "a.txt", "range", "bytes=9-"), 416, "416\n", "content-type", "text/plain", "content-range", "bytes */5")
	wantResponse(t, "known", get("/f/a.txt", "a.txt", "if-none-match", `"1-5"`), 304, "", "etag", `"1-5"`, "last-modified", at)
	wantResponse(t, "slash", get("/f/d", "d"), 301, "301\n", "content-type", "text/plain", "location", "/f/d/")
	wantResponse(t, "index", get("/f/d/", "d/"), 200, "x", "content-type", "text/html", "etag", `"2-1"`, "last-modified", "Thu, 01 Jan 1970 00:00:00 GMT", "accept-ranges", "bytes")
	wantResponse(t, "method", Answer(s, "/w", "POST", "/f/a.txt", "a.txt", nil), 405, "405\n", "content-type", "text/plain", "allow", "GET, HEAD, OPTIONS")
	wantResponse(t, "missing", get("/f/no", "no"), 404, "404\n", "content-type", "text/plain")
}

// P19.1

func TestPlain(t *testing.T) {
	wantResponse(t, "404", Plain(404), 404, "404\n", "content-type", "text/plain")
	wantResponse(t, "500", Plain(500, nil...), 500, "500\n", "content-type", "text/plain")
	wantResponse(t, "410", Plain(410, []api.Field{}...), 410, "410\n", "content-type", "text/plain")
	wantResponse(t, "one", Plain(405, of("allow", "GET")...), 405, "405\n", "content-type", "text/plain", "allow", "GET")
	wantResponse(t, "many", Plain(200, of("b", "2", "a", "1", "b", "2", "", "")...), 200, "200\n", "content-type", "text/plain", "b", "2", "a", "1", "b", "2", "", "")
	// More is laid behind, whatever it says.
	wantResponse(t, "kind", Plain(200, of("content-type", "text/html")...), 200, "200\n", "content-type", "text/plain", "content-type", "text/html")
}

func TestPlainOfAnyStatus(t *testing.T) {
	for _, status := range []int{0, 1, 7, 10, 99, 100, 204, 304, 999, 1000, 65536, math.MaxInt} {
		wantResponse(t, strconv.Itoa(status), Plain(status), status, strconv.Itoa(status)+"\n", "content-type", "text/plain")
	}
	for _, status := range []int{-1, -404, math.MinInt} {
		if r := Plain(status); r.Status != status || len(r.Fields) != 1 || !strings.HasSuffix(r.Body, "\n") {
			t.Errorf("%d: %v", status, r)
		}
	}
}

// What is handed in is not written into, nor its spare room, and is not kept.
func TestPlainTakesACopy(t *testing.T) {
	list := of("a", "1", "b", "2", "c", "3")
	kept := slices.Clone(list)
	r := Plain(200, list[:1]...)
	other := Plain(200, list[:1]...)
	r.Fields = append(r.Fields, api.Field{Name: "x"})
	for i := range r.Fields {
		r.Fields[i] = api.Field{Name: "y"}
	}
	if !slices.Equal(list, kept) {
		t.Error("the list is written into", list)
	}
	list[0].Name = "z"
	wantPlain(t, "later", other, 200, "a", "1")
	wantPlain(t, "again", Plain(200), 200)
}

// P19.2

func wantKind(t *testing.T, path, want string) {
	t.Helper()
	if kind := Kind(path); kind != want {
		t.Errorf("Kind(%.80q) = %q, not %q", path, kind, want)
	}
}

const unknown = "application/octet-stream"

func eachKind() map[string]string {
	return map[string]string{
		"html": "text/html",
		"txt":  "text/plain",
		"css":  "text/css",
		"js":   "text/javascript",
		"json": "application/json",
		"png":  "image/png",
	}
}

func TestKind(t *testing.T) {
	for ending, kind := range eachKind() {
		for _, ahead := range []string{"", "/", "a", "/a", "/w/a", "/w.d/a", "/a.", "/a.b", "/a.png", "/a.html", ".", "..", "/.", "\xFF", "\n", "/a b/"} {
			wantKind(t, ahead+"."+ending, kind)
		}
		// Without a dot, or with a slash behind it, or with anything else there, it is another ending.
		for _, path := range []string{ending, "/" + ending, "a/" + ending, "/a" + ending, "./" + ending, "/a./" + ending, "/a." + ending + "/", "/a." + ending + "/b", "." + ending + ".", "." + ending + ".x", "." + ending + " ", ". " + ending, "." + ending + "\n", ".x" + ending, "." + ending + "x", "." + ending[1:], "." + ending[:len(ending)-1] + "_", "." + strings.ToUpper(ending), "." + strings.ToUpper(ending[:1]) + ending[1:], "." + ending + "\x00", "." + ending + "?", ". ", "." + ending + "." + strings.ToUpper(ending)} {
			wantKind(t, path, unknown)
		}
	}
	for _, path := range []string{"", "/", ".", "..", "/.", "./", "/a", "/a.", "/a.b/c", ".htm", ".jpg", ".xhtml", ".jso", ".j", "\xFF", "/a.xml", ".text/html"} {
		wantKind(t, path, unknown)
	}
	wantKind(t, strings.Repeat("/a.html", 100000), "text/html")
	wantKind(t, strings.Repeat(".html/", 100000), unknown)
}

func TestKindOfEachShortPath(t *testing.T) {
	ending := regexp.MustCompile(`(?s)^.*\.([^./]*)$`)
	kinds := eachKind()
	eachText([]string{".", "/", "js", "on", "html", "txt", "css", "png", "x"}, 5, func(path string) {
		want := unknown
		if m := ending.FindStringSubmatch(path); m != nil && kinds[m[1]] != "" {
			want = kinds[m[1]]
		}
		wantKind(t, path, want)
	})
}

// P19.3: the methods.

func TestOtherMethods(t *testing.T) {
	s := example(t)
	for _, method := range []string{"", "POST", "PUT", "DELETE", "OPTIONS", "CONNECT", "TRACE", "PATCH", "get", "Get", "head", "GET ", " GET", "GETHEAD", "GE", "HEA", "*", "\x00", "GET\x00"} {
		for _, rest := range []string{"a.txt", "d", "d/", "no", "", "/"} {
			// Ahead of all else: no file, a folder, conditions, and ranges do not count.
			for _, fields := range [][]api.Field{nil, of("if-match", `"x"`), of("if-none-match", "*"), of("range", "bytes=9-"), of("range", "bytes=0-0")} {
				for _, s := range []*disk.Snap{s, nil, new(disk.Snap)} {
					wantPlain(t, method+" "+rest, Answer(s, "/w", method, "/f/"+rest, rest, fields), 405, "allow", "GET, HEAD, OPTIONS")
				}
			}
		}
	}
}

// HEAD is answered as GET is, body and all, but that it asks for no ranges.
func TestHead(t *testing.T) {
	s := example(t)
	for _, rest := range []string{"a.txt", "d", "d/", "no", "", "/", "a.txt/"} {
		for _, fields := range [][]api.Field{nil, of("if-match", `"x"`), of("if-none-match", `"1-5"`), of("if-modified-since", at), of("if-range", `"x"`)} {
			get := Answer(s, "/w", "GET", "/f/"+rest, rest, fields)
			if head := Answer(s, "/w", "HEAD", "/f/"+rest, rest, fields); !same(get, head) {
				t.Errorf("%q %v: GET %v, HEAD %v", rest, fields, get, head)
			}
		}
	}
	for _, value := range []string{"bytes=1-2", "bytes=0-0,-1", "bytes=9-", "bytes=x", ""} {
		wantHello(t, value, Answer(s, "/w", "HEAD", "/f/a.txt", "a.txt", of("range", value)))
	}
}

// P19.3: the file's path.

func TestPlaceOfTheFile(t *testing.T) {
	s := snapOf(t, "/index.html", "/a", "/w/index.html", "/w/a", "/w/d/index.html", "/w/d/a.css", "/w/d/e/index.html", "/w v/a b.js")
	get := func(root, rest string) api.Response { return Answer(s, root, "GET", "/x/y", rest, nil) }
	wantFile(t, "index of the root", get("", ""), "/index.html", 0, "text/html")
	wantFile(t, "below the root", get("", "a"), "/a", 1, unknown)
	wantFile(t, "index", get("/w", ""), "/w/index.html", 2, "text/html")
	wantFile(t, "index by its name", get("/w", "index.html"), "/w/index.html", 2, "text/html")
	wantFile(t, "file", get("/w", "a"), "/w/a", 3, unknown)
	wantFile(t, "file from afar", get("", "w/a"), "/w/a", 3, unknown)
	wantFile(t, "folder", get("/w", "d/"), "/w/d/index.html", 4, "text/html")
	wantFile(t, "folder as a root", get("/w/d", ""), "/w/d/index.html", 4, "text/html")
	wantFile(t, "folder from afar", get("", "w/d/"), "/w/d/index.html", 4, "text/html")
	wantFile(t, "deeper file", get("/w", "d/a.css"), "/w/d/a.css", 5, "text/css")
	wantFile(t, "deeper folder", get("/w", "d/e/"), "/w/d/e/index.html", 6, "text/html")
	wantFile(t, "blanks", get("/w v", "a b.js"), "/w v/a b.js", 7, "text/javascript")
}

func TestNoFile(t *testing.T) {
	s := snapOf(t, "/w/a.txt", "/w/d/b", "/w/d/e/c", "/w/index.html/f", "/index")
	for _, c := range [][2]string{
		{"/w", "b"}, {"/w", "a"}, {"/w", "a.tx"}, {"/w", "a.txtx"}, {"/w", "A.txt"}, {"/w", "a.txt "},
		// A folder without an index, whatever else is in it.
		{"/w", ""}, {"/w", "d/"}, {"/w", "d/e/"}, {"", ""}, {"", "w/"}, {"/w", "no/"}, {"/w", "a.txt/"},
		// A folder that begins like another one.
		{"/w", "d/bb"}, {"/w", "d/e/c/c"}, {"/", "w"}, {"w", "d"}, {"/x", "d"},
		// What is no file's path is no file's.
		{"/w", "/a.txt"}, {"/w", "/"}, {"/w", "//"}, {"/w/", "a.txt"}, {"/w", "./a.txt"}, {"/w", "d/../a.txt"}, {"/w/d", "../a.txt"}, {"w", "a.txt"}, {"", "/w/a.txt"},
		{"/w", "\x00"}, {"/w", "\xFF"}, {"/w\x00", "a.txt"}, {"/w", "a.txt\x00"}, {"/w", "%61.txt"}, {"/w", "a.txt?"}, {"/w", strings.Repeat("a", 1<<20)},
	} {
		for _, method := range []string{"GET", "HEAD"} {
			// Where there is no file, neither conditions nor ranges count.
			for _, fields := range [][]api.Field{nil, of("if-match", "*"), of("if-match", `"x"`), of("if-none-match", "*"), of("range", "bytes=0-0"), of("if-unmodified-since", before)} {
				wantPlain(t, c[0]+" and "+c[1], Answer(s, c[0], method, "/x", c[1], fields), 404)
			}
		}
	}
	for _, s := range []*disk.Snap{nil, new(disk.Snap), disk.New().Snap()} {
		for _, rest := range []string{"", "a.txt", "d", "d/"} {
			wantPlain(t, rest, Answer(s, "/w", "GET", "/f/"+rest, rest, nil), 404)
		}
	}
}

func TestFolderWithoutItsSlash(t *testing.T) {
	s := snapOf(t, "/w/d/index.html", "/w/e/f/g", "/w/index.html/f", "/w/x", "/w/x/y", "/w/z.txt", "/wide/d")
	for _, c := range []struct{ root, path, rest, location string }{
		{"/w", "/f/d", "d", "/f/d/"},
		{"/w", "/f/e", "e", "/f/e/"},
		{"/w", "/f/e/f", "e/f", "/f/e/f/"},
		{"/w/e", "/f", "f", "/f/"},
		{"", "/w", "w", "/w/"},
		{"", "/w/e", "w/e", "/w/e/"},
		{"/w", "/f/index.html", "index.html", "/f/index.html/"},
		// The location is the target's, whatever is left of it, and escaped.
		{"/w", "/a b/%/d", "d", "/a%20b/%25/d/"},
		{"/w", "/\xC3\xA4?#", "d", "/%C3%A4%3F%23/"},
		{"/w", "/a-._~/d", "d", "/a-._~/d/"},
		{"/w", "", "d", "/"},
		{"/w", "/", "d", "//"},
		{"/w", "/f/d/", "d", "/f/d//"},
		{"/w", "/\r\nx: y", "d", "/%0D%0Ax%3A%20y/"},
	} {
		for _, method := range []string{"GET", "HEAD"} {
			for _, fields := range [][]api.Field{nil, of("if-match", `"x"`), of("if-none-match", "*"), of("range", "bytes=9-")} {
				wantPlain(t, c.root+" and "+c.rest, Answer(s, c.root, method, c.path, c.rest, fields), 301, "location", c.location)
			}
		}
	}
	// A file is one, also if others lie below its path.
	wantFile(t, "file", Answer(s, "/w", "GET", "/f/x", "x", nil), "/w/x", 3, unknown)
	// Below a path is what has a slash behind it.
	for _, rest := range []string{"z", "z.tx", "d/index", "d/i", "e/f/", "e/", "x/", "", "d/index.html/"} {
		wantPlain(t, rest, Answer(s, "/w", "GET", "/f/"+rest, rest, nil), 404)
	}
	wantPlain(t, "wi", Answer(s, "", "GET", "/wi", "wi", nil), 404)
}

// P19.3: the conditions.

func TestConditions(t *testing.T) {
	s := example(t)
	for _, c := range []struct {
		status int
		fields []string
	}{
		{200, []string{"if-match", `"1-5"`}},
		{200, []string{"if-match", "*"}},
		{412, []string{"if-match", `"2-5"`}},
		{412, []string{"if-match", `W/"1-5"`}},
		{412, []string{"if-match", ""}},
		{412, []string{"if-match", `"2-5"`, "if-none-match", `"1-5"`}},
		{304, []string{"if-match", `"1-5"`, "if-none-match", `"1-5"`}},
		{304, []string{"if-none-match", `"x", W/"1-5"`}},
		{304, []string{"if-none-match", `"x"`, "accept", "*/*", "if-none-match", `"1-5"`}},
		{304, []string{"if-none-match", "*"}},
		{200, []string{"if-none-match", `"2-5"`}},
		{200, []string{"if-none-match", `"1-4"`}},
		{200, []string{"if-none-match", `"x"`, "if-modified-since", at}},
		{304, []string{"if-modified-since", at}},
		{304, []string{"if-modified-since", after}},
		{200, []string{"if-modified-since", before}},
		{200, []string{"if-modified-since", "yesterday"}},
		{412, []string{"if-unmodified-since", before}},
		{200, []string{"if-unmodified-since", at}},
		{200, []string{"if-unmodified-since", after}},
		{304, []string{"if-unmodified-since", at, "if-modified-since", at}},
		{412, []string{"if-unmodified-since", before, "if-none-match", `"1-5"`}},
	} {
		for _, method := range []string{"GET", "HEAD"} {
			r := Answer(s, "/w", method, "/f/a.txt", "a.txt", of(c.fields...))
			name := method + " " + strings.Join(c.fields, " ")
			switch c.status {
			case 200:
				wantHello(t, name, r)
			case 304:
				wantResponse(t, name, r, 304, "", "etag", `"1-5"`, "last-modified", at)
			case 412:
				wantPlain(t, name, r, 412)
			}
		}
	}
	// Of an index, too, it is the file that counts.
	wantResponse(t, "index", Answer(s, "/w", "GET", "/f/d/", "d/", of("if-none-match", `"2-1"`)), 304, "", "etag", `"2-1"`, "last-modified", "Thu, 01 Jan 1970 00:00:00 GMT")
}

// P19.3: the whole file.

func TestWholeFiles(t *testing.T) {
	d := disk.New()
	great := strings.Repeat("part0\x00\xFF", 65536/7)
	for i, c := range []struct {
		name, body string
		time       int
		kind, day  string
	}{
		{"a.html", "", 0, "text/html", "Thu, 01 Jan 1970 00:00:00 GMT"},
		{"a.txt", "\r\n\x00\xFF", 1, "text/plain", "Thu, 01 Jan 1970 00:00:01 GMT"},
		{"b.css", "b", 951782400, "text/css", "Tue, 29 Feb 2000 00:00:00 GMT"},
		{"c.js", great, 253402300799, "text/javascript", "Fri, 31 Dec 9999 23:59:59 GMT"},
		{"d.json", "{}", 784111777, "application/json", at},
		{"e.png", "e", 784111778, "image/png", after},
		{"f", "f", 784111776, unknown, before},
		{"g.html/h", "g", 0, unknown, "Thu, 01 Jan 1970 00:00:00 GMT"},
		{"~ %2e{}.x.txt", "h", 0, "text/plain", "Thu, 01 Jan 1970 00:00:00 GMT"},
		{"a.html", "again", 0, "text/html", "Thu, 01 Jan 1970 00:00:00 GMT"},
	} {
		if err := d.Put("/w/"+c.name, c.body, c.time); err != api.OK {
			t.Fatal(c.name, err)
		}
		etag := `"` + strconv.Itoa(i+1) + "-" + strconv.Itoa(len(c.body)) + `"`
		// Fields that are no conditions and no ranges do not count, nor those whose names have capitals, as Fields have none.
		for _, fields := range [][]api.Field{nil, of("accept", "*/*", "host", "x", "", ""), of("Range", "bytes=0-0", "RANGE", "bytes=0-0"), of("If-Match", `"x"`), of("ranges", "bytes=0-0"), of("range ", "bytes=0-0")} {
			r := Answer(d.Snap(), "/w", "GET", "/f/"+c.name, c.name, fields)
			wantResponse(t, c.name, r, 200, c.body, "content-type", c.kind, "etag", etag, "last-modified", c.day, "accept-ranges", "bytes")
		}
	}
}

// R2: what is handed in is not written into and not kept, and what comes out is new.
func TestAnswersAreNewMemory(t *testing.T) {
	s := example(t)
	for _, method := range []string{"GET", "POST"} {
		for _, rest := range []string{"a.txt", "d", "no", "d/"} {
			for _, more := range [][]string{nil, {"if-none-match", `"1-5"`}, {"if-match", `"x"`}, {"range", "bytes=1-2"}, {"range", "bytes=0-0,-1"}, {"range", "bytes=9-"}} {
				list := of(append(more, "x", "1", "y", "2", "z", "3")...)
				kept := slices.Clone(list)
				fields := list[:len(list)-2]
				first := Answer(s, "/w", method, "/f/"+rest, rest, fields)
				second := Answer(s, "/w", method, "/f/"+rest, rest, fields)
				told := slices.Clone(first.Fields)
				second.Fields = append(second.Fields, api.Field{Name: "more"})
				for i := range second.Fields {
					second.Fields[i] = api.Field{Name: "other"}
				}
				if !slices.Equal(list, kept) {
					t.Errorf("%q: the fields are written into: %v", rest, list)
				}
				clear(list)
				if !slices.Equal(first.Fields, told) || !same(first, Answer(s, "/w", method, "/f/"+rest, rest, kept[:len(kept)-2])) {
					t.Errorf("%q %v: %v", rest, more, first)
				}
			}
		}
	}
}

// P19.4: what else is on the disk does not count.

func TestAnswerHangsOnTheFileAlone(t *testing.T) {
	lean, full := disk.New(), disk.New()
	put := func(d *disk.Disk, path, body string, time int) {
		if err := d.Put(path, body, time); err != api.OK {
			t.Fatal(path, err)
		}
	}
	put(lean, "/w/z", "", 0)
	put(full, "/w/a", "other", 9)
	for _, d := range []*disk.Disk{lean, full} {
		put(d, "/w/a.txt", "hello", 784111777)
		put(d, "/w/d/index.html", "x", 0)
	}
	// A folder is one, whatever lies in it.
	put(lean, "/w/e/f", "f", 0)
	put(full, "/w/e/g/h", "h", 1)
	for i := range 200 {
		put(full, "/w/more"+strconv.Itoa(i), "more", i)
		put(full, "/w/a.txt/more"+strconv.Itoa(i), "more", i)
		put(full, "/w/a.txt"+strconv.Itoa(i), "more", i)
		put(full, "/w/e/"+strconv.Itoa(i), "more", i)
		put(full, "/w/n-"+strconv.Itoa(i), "more", i)
	}
	for _, method := range []string{"GET", "HEAD", "POST"} {
		for _, rest := range []string{"a.txt", "d/", "d/index.html", "d", "e", "e/", "n", "no/", ""} {
			for _, fields := range [][]api.Field{nil, of("if-none-match", `"2-5"`), of("if-match", `"2-5"`), of("range", "bytes=1-2"), of("range", "bytes=0-0,-1"), of("range", "bytes=9-"), of("if-modified-since", at)} {
				a := Answer(lean.Snap(), "/w", method, "/f/"+rest, rest, fields)
				b := Answer(full.Snap(), "/w", method, "/f/"+rest, rest, fields)
				if !same(a, b) {
					t.Errorf("%s %q %v: %v, but %v", method, rest, fields, a, b)
				}
			}
		}
	}
}

// A snapshot is answered as it was, whatever its disk is now.
func TestAnswerOfASnapshotThatIsPast(t *testing.T) {
	d := disk.New()
	d.Put("/w/a.txt", "hello", 784111777)
	then := d.Snap()
	d.Put("/w/a.txt", "other", 0)
	now := d.Snap()
	d.Remove("/w/a.txt")
	wantHello(t, "then", Answer(then, "/w", "GET", "/f/a.txt", "a.txt", of("if-match", `"1-5"`)))
	wantPlain(t, "now", Answer(now, "/w", "GET", "/f/a.txt", "a.txt", of("if-match", `"1-5"`)), 412)
	wantPlain(t, "later", Answer(d.Snap(), "/w", "GET", "/f/a.txt", "a.txt", of("if-match", `"1-5"`)), 404)
}
