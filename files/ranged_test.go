package files

import (
	"io"
	"mime"
	"mime/multipart"
	"slices"
	"strconv"
	"strings"
	"testing"

	"ostler/api"
	"ostler/disk"
)

// bodySnap is a disk with one file, /w/a.txt, of that body and the example's time: its tag begins with 1.
func bodySnap(t *testing.T, body string) *disk.Snap {
	t.Helper()
	d := disk.New()
	if err := d.Put("/w/a.txt", body, 784111777); err != api.OK {
		t.Fatal(err)
	}
	return d.Snap()
}

func getRange(s *disk.Snap, value string, more ...string) api.Response {
	return Answer(s, "/w", "GET", "/f/a.txt", "a.txt", of(append([]string{"range", value}, more...)...))
}

// headsOf are the fields of an answer that has bytes of a file of bodySnap.
func headsOf(kind string, size int, more ...string) []string {
	return append([]string{"content-type", kind, "etag", `"1-` + strconv.Itoa(size) + `"`, "last-modified", at, "accept-ranges", "bytes"}, more...)
}

func wantPart(t *testing.T, name string, r api.Response, size int, told, body string) {
	t.Helper()
	wantResponse(t, name, r, 206, body, headsOf("text/plain", size, "content-range", told)...)
}

// piece is a part of a body of several: what it tells of its range, and its bytes.
type piece struct{ told, body string }

func wantPieces(t *testing.T, name string, r api.Response, size int, line string, pieces ...piece) {
	t.Helper()
	body := ""
	for _, p := range pieces {
		body += "--" + line + "\x0D\x0AContent-Type: text/plain\x0D\x0AContent-Range: " + p.told + "\x0D\x0A\x0D\x0A" + p.body + "\x0D\x0A"
	}
	body += "--" + line + "--\x0D\x0A"
	wantResponse(t, name, r, 206, body, headsOf("multipart/byteranges; boundary="+line, size)...)
}

func TestOneRange(t *testing.T) {
	s := bodySnap(t, "hello")
	for value, p := range map[string]piece{
		"bytes=0-4":         {"bytes 0-4/5", "hello"},
		"bytes=0-":          {"bytes 0-4/5", "hello"},
		"bytes=-5":          {"bytes 0-4/5", "hello"},
		"bytes=-9":          {"bytes 0-4/5", "hello"},
		"bytes=0-99":        {"bytes 0-4/5", "hello"},
		"bytes=0-0":         {"bytes 0-0/5", "h"},
		"bytes=4-4":         {"bytes 4-4/5", "o"},
		"bytes=4-":          {"bytes 4-4/5", "o"},
		"bytes=-1":          {"bytes 4-4/5", "o"},
		"bytes=3-5":         {"bytes 3-4/5", "lo"},
		"bytes=1-2":         {"bytes 1-2/5", "el"},
		"bytes= , 001-2 ,,": {"bytes 1-2/5", "el"},
		// Several pieces, but one alone is within the body.
		"bytes=5-,1-2":    {"bytes 1-2/5", "el"},
		"bytes=-0, 4-9":   {"bytes 4-4/5", "o"},
		"bytes=0-0,9-,-0": {"bytes 0-0/5", "h"},
	} {
		wantPart(t, value, getRange(s, value), 5, p.told, p.body)
	}
	wantPart(t, "one byte", getRange(bodySnap(t, "\xFF"), "bytes=0-0"), 1, "bytes 0-0/1", "\xFF")
}

// The fields of a part are those of the file's own path, which may be an index.
func TestOneRangeOfAnIndex(t *testing.T) {
	r := Answer(example(t), "/w", "GET", "/f/d/", "d/", of("range", "bytes=-1"))
	wantResponse(t, "index", r, 206, "x", "content-type", "text/html", "etag", `"2-1"`, "last-modified", "Thu, 01 Jan 1970 00:00:00 GMT", "accept-ranges", "bytes", "content-range", "bytes 0-0/1")
}

func TestSeveralRanges(t *testing.T) {
	s := bodySnap(t, "hello")
	wantPieces(t, "two", getRange(s, "bytes=0-0,-1"), 5, "part0", piece{"bytes 0-0/5", "h"}, piece{"bytes 4-4/5", "o"})
	wantPieces(t, "back", getRange(s, "bytes=-1,0-0"), 5, "part0", piece{"bytes 4-4/5", "o"}, piece{"bytes 0-0/5", "h"})
	wantPieces(t, "twice", getRange(s, "bytes=1-2, 1-2"), 5, "part0", piece{"bytes 1-2/5", "el"}, piece{"bytes 1-2/5", "el"})
	wantPieces(t, "over", getRange(s, "bytes=0-,1-3"), 5, "part0", piece{"bytes 0-4/5", "hello"}, piece{"bytes 1-3/5", "ell"})
	wantPieces(t, "within", getRange(s, "bytes=0-1,7-9,3-9"), 5, "part0", piece{"bytes 0-1/5", "he"}, piece{"bytes 3-4/5", "lo"})
	eight := slices.Repeat([]piece{{"bytes 4-4/5", "o"}}, 8)
	wantPieces(t, "eight", getRange(s, "bytes=4-"+strings.Repeat(",-1", 7)), 5, "part0", eight...)
	wantPieces(t, "line", getRange(bodySnap(t, "part0part1"), "bytes=0-4,5-"), 10, "part2", piece{"bytes 0-4/10", "part0"}, piece{"bytes 5-9/10", "part1"})
	// The line stands in the whole body, not only in what is asked for.
	wantPieces(t, "line elsewhere", getRange(bodySnap(t, "ab-part0"), "bytes=0-0,1-1"), 8, "part1", piece{"bytes 0-0/8", "a"}, piece{"bytes 1-1/8", "b"})
	great := strings.Repeat("x", 65536)
	wantPieces(t, "great", getRange(bodySnap(t, great), "bytes=0-"+strings.Repeat(",0-65535", 7)), 65536, "part0", slices.Repeat([]piece{{"bytes 0-65535/65536", great}}, 8)...)
}

func TestSeveralRangesOfAnIndex(t *testing.T) {
	d := disk.New()
	d.Put("/w/index.html", "ab", 0)
	r := Answer(d.Snap(), "/w", "GET", "/f", "", of("range", "bytes=0-0,1-1"))
	wantResponse(t, "index", r, 206, "--part0\r\nContent-Type: text/html\r\nContent-Range: bytes 0-0/2\r\n\r\na\r\n--part0\r\nContent-Type: text/html\r\nContent-Range: bytes 1-1/2\r\n\r\nb\r\n--part0--\r\n",
		"content-type", "multipart/byteranges; boundary=part0", "etag", `"1-2"`, "last-modified", "Thu, 01 Jan 1970 00:00:00 GMT", "accept-ranges", "bytes")
}

func TestRangesBeyondTheBody(t *testing.T) {
	s := bodySnap(t, "hello")
	for _, value := range []string{"bytes=5-", "bytes=5-5", "bytes=9-", "bytes=-0", "bytes=9-,5-6,-0", "bytes=999999999999999-"} {
		wantPlain(t, value, getRange(s, value), 416, "content-range", "bytes */5")
	}
	s = bodySnap(t, "")
	for _, value := range []string{"bytes=0-", "bytes=0-0", "bytes=-1", "bytes=-0", "bytes=0-,-1"} {
		wantPlain(t, value, getRange(s, value), 416, "content-range", "bytes */0")
	}
}

// What is no list of ranges, or is too long a one, is as if it were not there.
func TestNoRanges(t *testing.T) {
	s := bodySnap(t, "hello")
	for _, value := range []string{"", "bytes", "bytes=", "bytes=,", "bytes=x", "bytes=1", "bytes=2-1", "bytes=1-2,x", "bytes=9-,x", "byte=1-2", "Bytes=1-2", "bytes =1-2", "bytes=1-2-3", "bytes=--1", "bytes=0-0000000000000004", "\x00", "bytes=1-2;", "bytes=0-0" + strings.Repeat(",0-0", 8), "bytes=9-" + strings.Repeat(",9-", 8)} {
		wantHello(t, value, getRange(s, value))
	}
}

// Just one field is looked at: two of them are none, whatever they say.
func TestTwoFieldsOfRanges(t *testing.T) {
	s := bodySnap(t, "hello")
	for _, second := range []string{"bytes=1-2", "bytes=9-", "bytes=x", ""} {
		for _, first := range []string{"bytes=1-2", "bytes=9-", "bytes=x", ""} {
			wantHello(t, first+" and "+second, getRange(s, first, "range", second))
			wantHello(t, first+" and "+second, getRange(s, first, "accept", "x", "range", second, "range", first))
		}
	}
	wantPart(t, "other names", getRange(s, "bytes=1-2", "Range", "bytes=0-0", "ranges", "bytes=0-0", "rang", "x"), 5, "bytes 1-2/5", "el")
	wantPart(t, "not the first field", Answer(s, "/w", "GET", "/f/a.txt", "a.txt", of("accept", "x", "range", "bytes=1-2", "te", "y")), 5, "bytes 1-2/5", "el")
}

func TestConditionOfRanges(t *testing.T) {
	s := bodySnap(t, "hello")
	for _, value := range []string{`"1-5"`, at, ` "1-5" `, `"1-5",`} {
		wantPart(t, value, getRange(s, "bytes=1-2", "if-range", value), 5, "bytes 1-2/5", "el")
		wantPlain(t, value, getRange(s, "bytes=9-", "if-range", value), 416, "content-range", "bytes */5")
		wantHello(t, value, getRange(s, "bytes=x", "if-range", value))
	}
	for _, value := range []string{`"x"`, `"1-4"`, `"2-5"`, `W/"1-5"`, "*", `"1-5", "1-5"`, before, after, "", "1-5"} {
		for _, asked := range []string{"bytes=1-2", "bytes=9-", "bytes=0-0,-1", "bytes=x"} {
			wantHello(t, value, getRange(s, asked, "if-range", value))
		}
	}
	// Without a range it says nothing.
	for _, value := range []string{`"1-5"`, `"x"`, at} {
		wantHello(t, value, Answer(s, "/w", "GET", "/f/a.txt", "a.txt", of("if-range", value)))
	}
}

// The other conditions are ahead of all ranges.
func TestConditionsAheadOfRanges(t *testing.T) {
	s := bodySnap(t, "hello")
	for _, asked := range []string{"bytes=1-2", "bytes=9-", "bytes=0-0,-1", "bytes=x"} {
		for _, condition := range []string{`"1-5"`, `"x"`} {
			wantPlain(t, asked, getRange(s, asked, "if-range", condition, "if-match", `"x"`), 412)
			wantResponse(t, asked, getRange(s, asked, "if-range", condition, "if-none-match", "*"), 304, "", "etag", `"1-5"`, "last-modified", at)
			wantResponse(t, asked, getRange(s, asked, "if-range", condition, "if-modified-since", at), 304, "", "etag", `"1-5"`, "last-modified", at)
		}
	}
	wantPart(t, "they hold", getRange(s, "bytes=1-2", "if-match", `"1-5"`, "if-none-match", `"x"`), 5, "bytes 1-2/5", "el")
	wantPlain(t, "they hold", getRange(s, "bytes=9-", "if-match", `"1-5"`), 416, "content-range", "bytes */5")
}

// P19.4: of one range the part is the body's, of each one that there is.
func TestEachRangeOfABody(t *testing.T) {
	body := "part0\r\n--\x00\xFFx"
	s := bodySnap(t, body)
	for from := range len(body) {
		for to := from; to < len(body); to++ {
			told := strconv.Itoa(from) + "-" + strconv.Itoa(to)
			wantPart(t, told, getRange(s, "bytes="+told), len(body), "bytes "+told+"/"+strconv.Itoa(len(body)), body[from:to+1])
		}
	}
}

// P19.4: the whole of all parts of neighbouring ranges is the body, asked for one by one, or all at once.
func TestNeighbouringRangesAreTheBody(t *testing.T) {
	next := numbers(194)
	for range 1000 {
		var made strings.Builder
		for range 2 + next(40) {
			made.WriteString([]string{"--part", "part", "\r\n", "\r\n--", "0", "1", "\r\n--part0\r\n", "\r\n--part1--\r\n", "x"}[next(9)])
		}
		body := made.String()
		s := bodySnap(t, body)
		cuts := []int{0, len(body)}
		for range 1 + next(7) {
			cuts = append(cuts, 1+next(len(body)-1))
		}
		slices.Sort(cuts)
		cuts = slices.Compact(cuts)
		var pieces []string
		joined := ""
		for i := range len(cuts) - 1 {
			piece := strconv.Itoa(cuts[i]) + "-" + strconv.Itoa(cuts[i+1]-1)
			pieces = append(pieces, piece)
			joined += getRange(s, "bytes="+piece).Body
		}
		if joined != body {
			t.Fatalf("%q: one by one %q is %q", pieces, body, joined)
		}
		if joined = readParts(t, getRange(s, "bytes="+strings.Join(pieces, ","))); joined != body {
			t.Fatalf("%q: at once %q is %q", pieces, body, joined)
		}
	}
}

// readParts is the bytes of all parts of an answer, as a reader of such bodies finds them by what the answer's field says.
func readParts(t *testing.T, r api.Response) string {
	t.Helper()
	kind, params, err := mime.ParseMediaType(r.Fields[0].Value)
	if err != nil || kind != "multipart/byteranges" || r.Status != 206 {
		t.Fatal(r.Status, kind, err)
	}
	reader := multipart.NewReader(strings.NewReader(r.Body), params["boundary"])
	all := ""
	for {
		part, err := reader.NextRawPart()
		if err == io.EOF {
			return all
		}
		if err != nil {
			t.Fatal(err)
		}
		cut, err := io.ReadAll(part)
		if err != nil {
			t.Fatal(err)
		}
		all += string(cut)
	}
}
