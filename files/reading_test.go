package files

import (
	"regexp"
	"strconv"
	"testing"

	"ostler/api"
	"ostler/date"
	"ostler/disk"
	"ostler/path"
	"ostler/ranges"
	"ostler/tags"
)

// The plain reading of P19.3: a list of files that is gone through, and texts that are told apart by expressions.

type reading struct {
	files  []api.Entry
	folder *regexp.Regexp // of what is left of a path and means an index
}

func newReading(files []api.Entry) reading {
	return reading{files, regexp.MustCompile(`(?s)^$|/$`)}
}

type request struct {
	root, method, path, rest string
	fields                   []api.Field
}

func (r reading) answer(q request) api.Response {
	wanted := q.root + "/" + q.rest
	folder := r.folder.MatchString(q.rest)
	if folder {
		wanted += "index.html"
	}
	var file api.File
	is, below := false, false
	under := regexp.MustCompile("^" + regexp.QuoteMeta(wanted) + "/")
	for _, entry := range r.files {
		if entry.Path == wanted {
			file, is = entry.File, true
		}
		below = below || under.MatchString(entry.Path)
	}
	status := tags.Decide(q.method, q.fields, file, true)
	switch {
	case q.method != "GET" && q.method != "HEAD":
		return short(405, "allow", "GET, HEAD, OPTIONS")
	case !is && !folder && below:
		return short(301, "location", path.Escape(q.path)+"/")
	case !is:
		return short(404)
	case status == 412:
		return short(412)
	}
	day, _ := date.Format(file.Time)
	all := of("content-type", Kind(wanted), "etag", tags.Make(file), "last-modified", day, "accept-ranges", "bytes")
	if status == 304 {
		return api.Response{Status: 304, Fields: all[1:3]}
	}
	return behindConditions(q, wanted, file, all)
}

// behindConditions is P19.3 from its fourth number on.
func behindConditions(q request, wanted string, file api.File, all []api.Field) api.Response {
	var values []string
	for _, f := range q.fields {
		if f.Name == "range" {
			values = append(values, f.Value)
		}
	}
	if q.method == "GET" && len(values) == 1 && tags.Same(q.fields, file) {
		list, err := ranges.Parse(values[0], len(file.Body))
		if err == api.ErrEmpty {
			return short(416, "content-range", ranges.Unmet(len(file.Body)))
		}
		if err == api.OK && len(list) == 1 {
			all = append(all, api.Field{Name: "content-range", Value: ranges.Told(list[0], len(file.Body))})
			return api.Response{Status: 206, Fields: all, Body: file.Body[list[0].From:][:list[0].To-list[0].From+1]}
		}
		if err == api.OK {
			all[0].Value = "multipart/byteranges; boundary=" + ranges.Line(file.Body)
			body, _ := ranges.Parts(file.Body, Kind(wanted), ranges.Line(file.Body), list...)
			return api.Response{Status: 206, Fields: all, Body: body}
		}
	}
	return api.Response{Status: 200, Fields: all, Body: file.Body}
}

// short is P19.1.
func short(status int, more ...string) api.Response {
	fields := of(append([]string{"content-type", "text/plain"}, more...)...)
	return api.Response{Status: status, Fields: fields, Body: strconv.Itoa(status) + "\x0A"}
}

// scattered is a request for some file or none, with some conditions and ranges.
func scattered(next func(n int) int) request {
	pick := func(texts ...string) string { return texts[next(len(texts))] }
	q := request{
		root:   pick("", "/w", "/w", "/w", "/w/d", "/"),
		method: pick("GET", "GET", "GET", "GET", "HEAD", "PUT", ""),
		path:   pick("/f", "/f/a b", "/", "/\xFF%"),
		rest:   pick("", "a.txt", "a.txt", "b.html", "d", "d/", "e", "e/", "e/f", "index.html", "no", "w", "/", "a.txt/"),
	}
	for range next(4) {
		name := pick("if-match", "if-none-match", "if-range", "if-modified-since", "if-unmodified-since", "range", "range", "Range", "accept")
		value := pick("*", `"1-5"`, `"2-5"`, `W/"1-5"`, `"3-1"`, `"x", "4-10"`, at, before, after)
		if name == "range" {
			value = pick("bytes=", "bytes=x", "bytes=9-", "bytes=0-0", "bytes=-3", "bytes=1-,0-0", "bytes=0-1,9-", "bytes=2-1", "bytes=0-,0-,0-,0-,0-,0-,0-,0-,0-")
		}
		q.fields = append(q.fields, api.Field{Name: name, Value: value})
	}
	return q
}

func TestScatteredRequests(t *testing.T) {
	paths := []string{"/w/a.txt", "/w/b.html", "/w/d/index.html", "/w/e/f", "/w/index.html", "/index.html", "/w/d/e/x", "/w/d", "/e/index.html"}
	bodies := []string{"hello", "", "x", "part0part1", "other"}
	next := numbers(193)
	seen := map[int]int{}
	for range 400 {
		d := disk.New()
		for range next(12) {
			if err := d.Put(paths[next(len(paths))], bodies[next(len(bodies))], 784111776+next(3)); err != api.OK {
				t.Fatal(err)
			}
		}
		s := d.Snap()
		plain := newReading(s.List(""))
		for range 200 {
			q := scattered(next)
			r, want := Answer(s, q.root, q.method, q.path, q.rest, q.fields), plain.answer(q)
			if !same(r, want) {
				t.Fatalf("%q: %v, not %v", q, r, want)
			}
			seen[r.Status]++
		}
	}
	for _, status := range []int{200, 206, 301, 304, 404, 405, 412, 416} {
		if seen[status] < 100 {
			t.Errorf("%d is answered %d times alone", status, seen[status])
		}
	}
}
