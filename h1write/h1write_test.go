package h1write

import (
	"math"
	"reflect"
	"slices"
	"strings"
	"testing"

	"ostler/api"
)

// of is fields, each a name and a value.
func of(texts ...string) []api.Field {
	var fields []api.Field
	for i := 0; i+1 < len(texts); i += 2 {
		fields = append(fields, api.Field{Name: texts[i], Value: texts[i+1]})
	}
	return fields
}

// lines are each with its end.
func lines(l ...string) string { return strings.Join(l, "\r\n") + "\r\n" }

// head is a head's lines, and the empty one behind them.
func head(l ...string) string { return lines(l...) + "\r\n" }

// oneByte is the text of a byte.
func oneByte(c int) string { return string([]byte{byte(c)}) }

// ask is one call of Pieces.
type ask struct {
	r               api.Response
	old, head, last bool
}

func (a ask) pieces() ([]string, api.Errno) { return Pieces(a.r, a.old, a.head, a.last) }

func (a ask) wants(t *testing.T, want ...string) {
	t.Helper()
	got, err := a.pieces()
	if err != api.OK || !slices.Equal(got, want) {
		t.Errorf("%+v: %q, %d; not %q", a, got, int(err), want)
	}
}

func (a ask) fails(t *testing.T, want api.Errno) {
	t.Helper()
	got, err := a.pieces()
	if err != want || len(got) != 0 {
		t.Errorf("%+v: %q, %d; not %d", a, got, int(err), int(want))
	}
}

// ways are all ways to ask for a response.
func ways(r api.Response) []ask {
	var all []ask
	for i := range 8 {
		all = append(all, ask{r, i&1 != 0, i&2 != 0, i&4 != 0})
	}
	return all
}

// P22.1

var phrases = map[int]string{
	100: "Continue", 200: "OK", 204: "No Content", 206: "Partial Content", 304: "Not Modified", 400: "Bad Request",
	404: "Not Found", 405: "Method Not Allowed", 408: "Request Timeout", 410: "Gone", 412: "Precondition Failed",
	413: "Content Too Large", 414: "URI Too Long", 416: "Range Not Satisfiable", 417: "Expectation Failed",
	421: "Misdirected Request", 431: "Request Header Fields Too Large", 500: "Internal Server Error",
	501: "Not Implemented", 503: "Service Unavailable", 505: "HTTP Version Not Supported",
}

// phrase is what P22.1 says of a status.
func phrase(status int) string {
	if s, is := phrases[status]; is {
		return s
	}
	return "Status"
}

func TestReason(t *testing.T) {
	for status := -1100; status <= 1100; status++ {
		if got := Reason(status); got != phrase(status) {
			t.Errorf("%d: %q", status, got)
		}
	}
	for _, status := range []int{math.MinInt, math.MaxInt, 1<<32 + 200, 1<<16 + 404, 256 + 200} {
		if got := Reason(status); got != "Status" {
			t.Errorf("%d: %q", status, got)
		}
	}
}

// P22.2, the chapter's examples

func TestExamples(t *testing.T) {
	ask{r: api.Response{Status: 200, Fields: of("content-length", "2"), Body: "ab"}}.wants(t,
		head("HTTP/1.1 200 OK", "content-length: 2"), "ab")
	trailing := api.Response{Status: 200, Fields: of("x", "1"), Body: "ab", Trailers: of("t", "v")}
	ask{r: trailing, last: true}.wants(t,
		head("HTTP/1.1 200 OK", "x: 1", "transfer-encoding: chunked", "connection: close"), lines("2", "ab"), head("0", "t: v"))
	ask{r: trailing, old: true}.wants(t, head("HTTP/1.1 200 OK", "x: 1", "connection: close"), "ab")
	ask{r: api.Response{Status: 200, Fields: of("content-length", "2"), Body: "ab"}, head: true}.wants(t,
		head("HTTP/1.1 200 OK", "content-length: 2"))
	ask{r: api.Response{Status: 304, Fields: of("etag", `"a"`)}, old: true}.wants(t,
		head("HTTP/1.1 304 Not Modified", `etag: "a"`, "connection: keep-alive"))
	for _, a := range ways(api.Response{Status: 200, Fields: of("content-length", "3"), Body: "ab"}) {
		if !a.head {
			a.fails(t, api.ErrLength)
		}
	}
	for _, a := range ways(api.Response{Status: 200, Fields: of("x", "a\rb")}) {
		a.fails(t, api.ErrSplit)
	}
}

// What a status counts as, and whether it has a body.
func TestStatuses(t *testing.T) {
	for _, status := range []int{math.MinInt, -200, -1, 0, 1, 99, 1000, 1200, 1<<32 + 200, math.MaxInt} {
		ask{r: api.Response{Status: status, Body: "a"}}.wants(t,
			head("HTTP/1.1 500 Internal Server Error", "transfer-encoding: chunked"), lines("1", "a"), head("0"))
	}
	for status := 100; status <= 999; status++ {
		line := "HTTP/1.1 " + digits(status) + " " + phrase(status)
		a := ask{r: api.Response{Status: status, Body: "a", Trailers: of("t", "v")}}
		if status < 200 || status == 204 || status == 304 {
			a.wants(t, head(line))
			continue
		}
		a.wants(t, head(line, "transfer-encoding: chunked"), lines("1", "a"), head("0", "t: v"))
	}
}

// digits is a status of three digits.
func digits(status int) string {
	return oneByte('0'+status/100) + oneByte('0'+status/10%10) + oneByte('0'+status%10)
}

// The lines that tell the end, in all ways to ask.
func TestEnds(t *testing.T) {
	const line, chunked = "HTTP/1.1 200 OK", "transfer-encoding: chunked"
	const closed, kept, sized = "connection: close", "connection: keep-alive", "content-length: 1"
	open := api.Response{Status: 200, Body: "a", Trailers: of("t", "v")}
	chunk, end := lines("1", "a"), head("0", "t: v")
	ask{r: open}.wants(t, head(line, chunked), chunk, end)
	ask{r: open, last: true}.wants(t, head(line, chunked, closed), chunk, end)
	ask{r: open, old: true}.wants(t, head(line, closed), "a")
	ask{r: open, old: true, last: true}.wants(t, head(line, closed), "a")
	ask{r: open, head: true}.wants(t, head(line))
	ask{r: open, head: true, last: true}.wants(t, head(line, closed))
	ask{r: open, head: true, old: true}.wants(t, head(line, kept))
	ask{r: open, head: true, old: true, last: true}.wants(t, head(line, closed))
	said := open
	said.Fields = of("content-length", "1")
	ask{r: said}.wants(t, head(line, sized), "a")
	ask{r: said, last: true}.wants(t, head(line, sized, closed), "a")
	ask{r: said, old: true}.wants(t, head(line, sized, kept), "a")
	ask{r: said, old: true, last: true}.wants(t, head(line, sized, closed), "a")
	ask{r: said, head: true}.wants(t, head(line, sized))
	ask{r: said, head: true, last: true}.wants(t, head(line, sized, closed))
	ask{r: said, head: true, old: true}.wants(t, head(line, sized, kept))
	ask{r: said, head: true, old: true, last: true}.wants(t, head(line, sized, closed))
}

// A status without a body is written as an answer to HEAD is, whatever the body.
func TestBodyless(t *testing.T) {
	for _, status := range []int{100, 101, 199, 204, 304} {
		for _, length := range []string{"", "0", "1", "2", "999999999999999"} {
			r := api.Response{Status: status, Body: "a", Trailers: of("t", "v")}
			if length != "" {
				r.Fields = of("content-length", length)
			}
			for _, a := range ways(r) {
				got, err := a.pieces()
				a.head = true
				want, _ := a.pieces()
				if err != api.OK || len(got) != 1 || !slices.Equal(got, want) || strings.Contains(got[0], "chunked") {
					t.Errorf("%+v: %q, %d", a, got, int(err))
				}
			}
		}
	}
}

// The fields: those of a connection are left out, the others stand in their order with small names.
func TestFields(t *testing.T) {
	fields := of("B", "X", "Connection", "close", "a", "", "KEEP-ALIVE", "1", "Proxy-Connection", "p", "b", "y Z",
		"transfer-encoding", "gzip", "upgradE", "h2c", "te", "trailers", "Host", "H", "connection", "x", "x!#$%&'*+-.^_`|~9", "\x80\t\xFF")
	want := []string{"b: X", "a: ", "b: y Z", "te: trailers", "host: H", "x!#$%&'*+-.^_`|~9: \x80\t\xFF"}
	top := append([]string{"HTTP/1.1 200 OK"}, want...)
	ask{r: api.Response{Status: 200, Fields: fields, Trailers: fields}}.wants(t,
		head(append(top, "transfer-encoding: chunked")...), head(append([]string{"0"}, want...)...))
	ask{r: api.Response{Status: 200, Fields: fields, Trailers: fields}, head: true}.wants(t, head(top...))
	ask{r: api.Response{Status: 200, Trailers: of("connection", "a", "upgrade", "b")}}.wants(t,
		head("HTTP/1.1 200 OK", "transfer-encoding: chunked"), head("0"))
}

// Each byte, in a name and in a value, of fields and of trailers.
func TestSplit(t *testing.T) {
	for c := range 256 {
		b := oneByte(c)
		visible := strings.Contains("!#$%&'*+-.^_`|~", b) && c != 0
		letter := 'a' <= c|0x20 && c|0x20 <= 'z' && c < 0x80
		name := visible || letter || '0' <= c && c <= '9'
		inner := c == 9 || 0x20 <= c && c <= 0x7E || c >= 0x80
		outer := inner && c != 9 && c != 0x20
		for field, sound := range map[api.Field]bool{
			{Name: b}: name, {Name: "a" + b}: name, {Name: b + "a"}: name,
			{Name: "a", Value: "a" + b + "a"}: inner, {Name: "a", Value: b}: outer,
			{Name: "a", Value: "a" + b}: outer, {Name: "a", Value: b + "a"}: outer,
		} {
			ahead := api.Field{Name: "x", Value: "y"}
			checkSplit(t, sound, []api.Field{field})
			checkSplit(t, sound, []api.Field{ahead, field})
			checkSplit(t, sound, []api.Field{field, ahead})
		}
	}
	checkSplit(t, false, of("", ""))
	checkSplit(t, false, of(":status", "200"))
	checkSplit(t, false, of("x", "a\r\nb: c"))
	checkSplit(t, false, of("connection", "a\nb"))
	checkSplit(t, false, of("connection ", "a"))
}

// checkSplit asks for a response with these fields, with these trailers, and with both.
func checkSplit(t *testing.T, sound bool, fields []api.Field) {
	t.Helper()
	for _, r := range []api.Response{
		{Status: 200, Fields: fields}, {Status: 200, Trailers: fields}, {Status: 204, Fields: fields, Trailers: fields},
	} {
		for _, a := range ways(r) {
			got, err := a.pieces()
			if sound != (err == api.OK) || sound != (len(got) > 0) || !sound && err != api.ErrSplit {
				t.Errorf("%+v: %q, %d", a, got, int(err))
			}
		}
	}
}

// What is wrong with a length, with a body and without one; and that what splits comes first.
func TestLengths(t *testing.T) {
	for _, fields := range [][]api.Field{
		of("content-length", "x"), of("Content-Length", "x"), of("content-length", ""), of("content-length", "01"),
		of("content-length", "+1"), of("content-length", "1, 1"), of("content-length", "1000000000000000"),
		of("content-length", "1", "content-length", "2"), of("content-length", "2", "a", "b", "CONTENT-LENGTH", "1"),
	} {
		for _, status := range []int{99, 100, 200, 204, 304, 404} {
			for _, a := range ways(api.Response{Status: status, Fields: fields, Body: "a"}) {
				a.fails(t, api.ErrLength)
				a.r.Trailers = of("t", "v", "a b", "")
				a.fails(t, api.ErrSplit)
			}
		}
	}
	for _, length := range []string{"0", "2", "11", "999999999999999"} {
		for _, a := range ways(api.Response{Status: 200, Fields: of("content-length", length), Body: "a"}) {
			if !a.head {
				a.fails(t, api.ErrLength)
				a.r.Fields = append(a.r.Fields, api.Field{Name: "x", Value: "\n"})
				a.fails(t, api.ErrSplit)
				continue
			}
			if got, err := a.pieces(); err != api.OK || len(got) != 1 {
				t.Errorf("%+v: %q, %d", a, got, int(err))
			}
		}
	}
	twice := of("content-length", "1", "Content-Length", "1")
	ask{r: api.Response{Status: 200, Fields: twice, Body: "a"}}.wants(t,
		head("HTTP/1.1 200 OK", "content-length: 1", "content-length: 1"), "a")
	ask{r: api.Response{Status: 200, Fields: of("content-length", "0")}}.wants(t, head("HTTP/1.1 200 OK", "content-length: 0"))
	ask{r: api.Response{Status: 200, Trailers: of("content-length", "7")}}.wants(t,
		head("HTTP/1.1 200 OK", "transfer-encoding: chunked"), head("0", "content-length: 7"))
}

// P22.3

func TestContinue(t *testing.T) {
	if got := Continue(); got != "HTTP/1.1 100 Continue\r\n\r\n" {
		t.Errorf("%q", got)
	}
}

func TestBare(t *testing.T) {
	for status := -1100; status <= 1100; status++ {
		said := status
		if status < 100 || status > 999 {
			said = 500
		}
		want := head("HTTP/1.1 "+digits(said)+" "+phrase(said), "content-length: 0", "connection: close")
		if got := Bare(status); got != want {
			t.Errorf("%d: %q", status, got)
		}
	}
	want := head("HTTP/1.1 500 Internal Server Error", "content-length: 0", "connection: close")
	for _, status := range []int{math.MinInt, math.MaxInt, 1<<32 + 200} {
		if got := Bare(status); got != want {
			t.Errorf("%d: %q", status, got)
		}
	}
}

// R2: what is handed in stays as it was, with the spare room, and what comes out is new.
func TestSharing(t *testing.T) {
	room := of("A", "1", "Connection", "close", "B", "2", "Spare", "\n")
	fields, trailers := room[:3], slices.Clone(room)[:3]
	before := slices.Clone(room)
	a := ask{r: api.Response{Status: 200, Fields: fields, Body: strings.Repeat("a", 40000), Trailers: trailers}}
	first, _ := a.pieces()
	again, _ := a.pieces()
	if !slices.Equal(first, again) || !slices.Equal(room, before) || !slices.Equal(trailers[:4], before) {
		t.Fatal("a call changed what it was given")
	}
	all := first[:cap(first)]
	for i := range all {
		all[i] = "spoilt"
	}
	for i := range room {
		room[i], trailers[:4][i] = api.Field{}, api.Field{}
	}
	if other, _ := (ask{r: api.Response{Status: 200, Fields: before[:3], Body: a.r.Body, Trailers: before[:3]}}).pieces(); !slices.Equal(other, again) {
		t.Error("a call kept what it was given")
	}
}

// R1: great ones.
func TestGreat(t *testing.T) {
	var fields []api.Field
	for range 100000 {
		fields = append(fields, api.Field{Name: "X", Value: "y"})
	}
	r := api.Response{Status: 200, Fields: fields, Body: strings.Repeat("b", 1<<24), Trailers: fields}
	for _, a := range ways(r) {
		got, err := a.pieces()
		if err != api.OK || strings.Count(got[0], "\r\nx: y") != 100000 {
			t.Error(a.old, a.head, a.last, len(got), int(err))
		}
	}
	long := strings.Repeat("n", 1<<20)
	ask{r: api.Response{Status: 204, Fields: of(long, long)}}.wants(t, head("HTTP/1.1 204 No Content", long+": "+long))
	if got, err := Pieces(api.Response{}, false, false, false); err != api.OK || !reflect.DeepEqual(got,
		[]string{head("HTTP/1.1 500 Internal Server Error", "transfer-encoding: chunked"), head("0")}) {
		t.Errorf("%q, %d", got, int(err))
	}
}
