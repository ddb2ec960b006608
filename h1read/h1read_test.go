package h1read

import (
	"fmt"
	"math"
	"reflect"
	"slices"
	"strings"
	"testing"

	"ostler/api"
	"ostler/msg"
)

// numbers are some that look scattered, the same ones for the same seed.
func numbers(seed uint64) func(n int) int {
	return func(n int) int {
		seed = seed*6364136223846793005 + 1442695040888963407
		return int(seed>>33) % n
	}
}

// of is fields, each a name and a value.
func of(texts ...string) []api.Field {
	var fields []api.Field
	for i := 0; i+1 < len(texts); i += 2 {
		fields = append(fields, api.Field{Name: texts[i], Value: texts[i+1]})
	}
	return fields
}

// lines are each with its end.
func lines(l ...string) string { return strings.Join(l, "\r\n") + "\r\n" }

// oneByte is the text of a byte.
func oneByte(c int) string { return string([]byte{byte(c)}) }

func readerOf(t *testing.T, list, body int) *Reader {
	t.Helper()
	r, err := New(api.Limits{List: list, Body: body})
	if r == nil || err != api.OK {
		t.Fatal("no reader", list, body, int(err))
	}
	return r
}

// tell is a piece as a text, and more of it, if a field has a value that has no meaning there.
func tell(p api.Piece) string {
	told := "more"
	switch q := p.Request; p.Mark {
	case api.HeadRead:
		told = fmt.Sprintf("head %s %s %q %q%s", q.Method, q.Scheme, q.Authority, q.Path, tellFields(q.Fields))
		for _, flag := range []struct {
			is   *bool
			word string
		}{{&p.Has, " has"}, {&p.Wait, " wait"}, {&p.Old, " old"}, {&p.Last, " last"}} {
			if *flag.is {
				told += flag.word
			}
			*flag.is = false
		}
		p.Request = api.Request{Body: q.Body, Trailers: q.Trailers}
	case api.BodyRead:
		told = fmt.Sprintf("body %q", p.Body)
		p.Body = ""
	case api.AllRead:
		told = "all" + tellFields(p.Fields)
		p.Fields = nil
	case api.Broken:
		told = fmt.Sprintf("broken %d", p.Status)
		p.Status = 0
	}
	p.Mark = 0
	if !reflect.DeepEqual(p, api.Piece{}) {
		told += " and more"
	}
	return told
}

func tellFields(list []api.Field) string {
	told := ""
	for _, f := range list {
		told += fmt.Sprintf(" [%s: %q]", f.Name, f.Value)
	}
	return told
}

// read is all that is read of bytes, up to what breaks it.
func read(r *Reader, data string) []string {
	var told []string
	for {
		n, p := r.Read(data)
		data = data[n:]
		if p.Mark != api.NeedMore {
			told = append(told, tell(p))
		}
		if p.Mark == api.NeedMore || p.Mark == api.Broken {
			return told
		}
	}
}

func want(t *testing.T, r *Reader, data string, pieces ...string) {
	t.Helper()
	if told := read(r, data); !slices.Equal(told, pieces) {
		t.Errorf("of %.200q is read\n%q, not\n%q", data, told, pieces)
	}
}

// wantBroken reads of List 200 and Body 10.
func wantBroken(t *testing.T, status int, data string) {
	t.Helper()
	r := readerOf(t, 200, 10)
	told := read(r, data)
	if len(told) == 0 || told[len(told)-1] != fmt.Sprintf("broken %d", status) {
		t.Errorf("of %.200q is read %q, not what is broken with %d", data, told, status)
	}
}

func wantState(t *testing.T, r *Reader, within bool, held int) {
	t.Helper()
	if r.Within() != within || r.Held() != held {
		t.Errorf("within %v, held %d; not %v, %d", r.Within(), r.Held(), within, held)
	}
}

// wantRead is what one Read takes and answers, and where the reader is then.
func wantRead(t *testing.T, r *Reader, data string, n int, piece string, within bool, held int) {
	t.Helper()
	if taken, p := r.Read(data); taken != n || tell(p) != piece {
		t.Errorf("of %.200q are taken %d: %s; not %d: %s", data, taken, tell(p), n, piece)
	}
	wantState(t, r, within, held)
}

const (
	get  = "GET / HTTP/1.1"
	host = "Host: h"
)

// chunked is the head of a request with a body in chunks.
func chunked() string { return lines("POST /a HTTP/1.1", host, "Transfer-Encoding: chunked", "") }

const chunkedRead = `head POST http "h" "/a" has`

// The chapter's examples

func TestExamples(t *testing.T) {
	want(t, readerOf(t, 200, 10), lines(get, host, ""), `head GET http "h" "/"`)
	want(t, readerOf(t, 200, 10), lines("POST /a HTTP/1.1", host, "Content-Length: 3", "")+"abc",
		`head POST http "h" "/a" [content-length: "3"] has`, `body "abc"`, "all")
	want(t, readerOf(t, 200, 10), chunked()+lines("2;x=y", "ab", "1", "c", "0", "T: v", ""),
		chunkedRead, `body "ab"`, `body "c"`, `all [t: "v"]`)
	want(t, readerOf(t, 200, 10), lines("GET / HTTP/1.0", ""), `head GET http "" "/" old last`)
	want(t, readerOf(t, 200, 10), lines("GET / HTTP/1.0", "Connection: keep-alive", ""), `head GET http "" "/" old`)
}

func TestExamplesThatAreBroken(t *testing.T) {
	for _, c := range []struct {
		status int
		data   string
	}{
		{400, lines("GET  / HTTP/1.1")}, {505, lines("GET / HTTP/2.0")}, {400, lines("GET / http/1.1")},
		{400, lines(get, "Host : h")}, {400, lines(get, " x: 1")}, {400, get + "\n"}, {400, lines(get) + host + "\n"},
		{413, lines(get, host, "Content-Length: 11", "")}, {400, lines(get, host, "Content-Length: x", "")},
		{400, lines(get, host, "Content-Length: 1", "Transfer-Encoding: chunked", "")},
		{501, lines(get, host, "Transfer-Encoding: gzip, chunked", "")},
		{400, lines(get, "")}, {417, lines(get, host, "Expect: 200", "")},
		{414, lines("GET /"+strings.Repeat("a", 199)+" HTTP/1.1", host, "")},
		{431, lines(get, "x: "+strings.Repeat("y", 170), "")},
	} {
		wantBroken(t, c.status, c.data)
	}
}

// P21.1

func TestNew(t *testing.T) {
	for _, l := range []api.Limits{{}, {List: 0, Body: 10}, {List: -1, Body: 10}, {List: math.MinInt64}, {List: 1, Body: -1}, {List: 200, Body: math.MinInt64}, {List: -1, Body: -1}} {
		if r, err := New(l); r != nil || err != api.ErrArg {
			t.Error(l, r, int(err))
		}
	}
	for _, l := range []api.Limits{{List: 1}, {List: 1, Body: 1}, {List: math.MaxInt64, Body: math.MaxInt64}, {List: 256, Streams: -1, Control: -1, Queue: -1, Workers: -1, Conns: -1, Idle: -1, Grace: -1}} {
		r, err := New(l)
		if r == nil || err != api.OK {
			t.Fatal(l, int(err))
		}
		wantState(t, r, false, 0)
		wantRead(t, r, "", 0, "more", false, 0)
	}
}

func TestNil(t *testing.T) {
	var none *Reader
	for _, r := range []*Reader{none, new(Reader)} {
		for _, data := range []string{"", "GET", "\n", lines(get, host, "")} {
			wantRead(t, r, data, 0, "more", false, 0)
		}
	}
}

// P21.2: the request line

func TestEmptyLinesAhead(t *testing.T) {
	r := readerOf(t, 200, 10)
	wantRead(t, r, "\r\n\r", 3, "more", true, 1)
	wantRead(t, r, "\n", 1, "more", false, 0)
	wantRead(t, r, strings.Repeat("\r\n", 1000), 2000, "more", false, 0)
	want(t, r, lines("", "", get, host, "", "", "", get, host, ""), `head GET http "h" "/"`, `head GET http "h" "/"`)
	want(t, r, lines("POST / HTTP/1.1", host, "Content-Length: 1", "")+"a"+lines("", get, host, ""),
		`head POST http "h" "/" [content-length: "1"] has`, `body "a"`, "all", `head GET http "h" "/"`)
	for _, data := range []string{"\n", "\r\r\n", "\r\n\n", "\rGET", " \r\n"} {
		wantBroken(t, 400, data)
	}
}

func TestRequestLine(t *testing.T) {
	for _, line := range []string{
		"", "GET", "GET ", "GET /", "GET / ", "GET  HTTP/1.1", "GET /  HTTP/1.1", "GET / HTTP/1.1 ", " GET / HTTP/1.1", " / HTTP/1.1", "  HTTP/1.1", "  ", "   ",
		"GET\t/\tHTTP/1.1", "GET /\tHTTP/1.1", "GET / b HTTP/1.1", "G@T / HTTP/1.1", "GET: / HTTP/1.1", "G\x80T / HTTP/1.1",
		"GET / HTTP/1.1x", "GET / xHTTP/1.1", "GET / HTTP/1", "GET / HTTP/1.", "GET / HTTP/.1", "GET / HTTP/1,1", "GET / HTTP 1.1", "GET / HTTP/11.1", "GET / HTTP/1.10", "GET / HTTP/a.1", "GET / HTTP/1.a", "GET / Http/1.1", "GET / HTTPS/1.1", "GET / 1.1",
		"GET / HTTP/:.0", "GET / HTTP/1.:", "GET / HTTP//.0", "GET / HTTP/1./",
		// The first of several flaws is told: not the version.
		"G@T / HTTP/2.0", "GET  / HTTP/2.0", " / HTTP/2.0", "GET / HTTP/2.0 ",
	} {
		if line != "" {
			wantBroken(t, 400, lines(line))
		}
	}
	for _, version := range []string{"HTTP/0.0", "HTTP/0.9", "HTTP/1.2", "HTTP/1.9", "HTTP/2.0", "HTTP/2.1", "HTTP/3.0", "HTTP/9.9"} {
		wantBroken(t, 505, lines("GET / "+version))
	}
	// What the target is comes to light with the whole head.
	for _, target := range []string{"a", "*", "#", "/#", "/\x7f", "/\x80", "http://", "\t"} {
		wantBroken(t, 400, lines("GET "+target+" HTTP/1.1", host, ""))
		r := readerOf(t, 200, 10)
		wantRead(t, r, lines("GET "+target+" HTTP/1.1", host), 15+len(target)+9, "more", true, 3+len(target)+5)
	}
	want(t, readerOf(t, 200, 10), lines("OPTIONS * HTTP/1.1", host, ""), `head OPTIONS http "h" "*"`)
	want(t, readerOf(t, 200, 10), lines("get https://x?y HTTP/1.1", host, ""), `head get https "x" "/?y"`)
	want(t, readerOf(t, 200, 10), lines("!~ / HTTP/1.0", ""), `head !~ http "" "/" old last`)
}

func TestLengthOfTheRequestLine(t *testing.T) {
	long := func(n int) string { return "GET /" + strings.Repeat("a", n-14) + " HTTP/1.1" }
	r := readerOf(t, 200, 10)
	want(t, r, lines(long(200), host, ""), `head GET http "h" "/`+strings.Repeat("a", 186)+`"`)
	wantRead(t, r, long(201)+"\r\n", 201, "broken 414", false, 0)
	wantRead(t, readerOf(t, 200, 10), strings.Repeat(" ", 200), 200, "more", true, 200)
	wantRead(t, readerOf(t, 200, 10), strings.Repeat(" ", 200)+"\r", 201, "more", true, 201)
	wantRead(t, readerOf(t, 200, 10), strings.Repeat(" ", 200)+"\r\n", 202, "broken 400", false, 0)
	wantRead(t, readerOf(t, 200, 10), strings.Repeat(" ", 200)+"\n", 201, "broken 400", false, 0)
	wantRead(t, readerOf(t, 200, 10), strings.Repeat(" ", 202), 201, "broken 414", false, 0)
	wantRead(t, readerOf(t, 1, 0), "G", 1, "more", true, 1)
	wantRead(t, readerOf(t, 1, 0), "GET", 2, "broken 414", false, 0)
}

// P21.2: field lines

func TestFieldLines(t *testing.T) {
	for _, c := range []struct{ line, want string }{
		{"X: 1", ` [x: "1"]`}, {"x:1", ` [x: "1"]`}, {"x: \t 1\t ", ` [x: "1"]`}, {"x:", ` [x: ""]`}, {"x: \t ", ` [x: ""]`},
		{"x::", ` [x: ":"]`}, {"x: a: b", ` [x: "a: b"]`}, {"x: a b\tc", ` [x: "a b\tc"]`}, {"!#$%&'*+-.^_`|~09azAZ: 1", " [!#$%&'*+-.^_`|~09azaz: \"1\"]"},
		{"x: \xff\x80", ` [x: "\xff\x80"]`}, {"ACCEPT: A", ` [accept: "A"]`},
	} {
		want(t, readerOf(t, 200, 10), lines(get, host, c.line, ""), `head GET http "h" "/"`+c.want)
		want(t, readerOf(t, 200, 10), chunked()+lines("0", c.line, ""), chunkedRead, "all"+c.want)
	}
	for _, line := range []string{"x", ":", ": 1", " x: 1", "\tx: 1", " ", "\t", "x : 1", "x\t: 1", "x y: 1", "x: a\x00b", "x: \x1f", "x: a\x7f", "x: \x0b1", "\x80: 1", "x@: 1", ":path: /", "\"x\": 1"} {
		for _, flaw := range []string{line, line + "\r\nx"} {
			wantBroken(t, 400, lines(get, host, flaw))
			wantBroken(t, 400, lines(get, flaw))
			wantBroken(t, 400, chunked()+lines("0", flaw))
			wantBroken(t, 400, chunked()+lines("0", "x: 1", flaw))
		}
	}
}

// A line that is broken is told as soon as it is read: the LF is the last byte that is taken.
func TestFieldLinesAreToldAtOnce(t *testing.T) {
	for _, ahead := range []string{lines(get), lines(get, host), chunked() + lines("0"), chunked() + lines("0", "x: 1")} {
		for _, c := range []struct {
			bytes, piece string
			n            int
		}{
			{"x\r\ny", "broken 400", 3}, {"x:\x01\r\n\r\n", "broken 400", 5}, {"x\ny", "broken 400", 2}, {"x\ry", "broken 400", 3}, {"x\r\r\n", "broken 400", 3}, {"\n", "broken 400", 1}, {"\r\r", "broken 400", 2},
			{strings.Repeat("x", 202), "broken 431", 201}, {strings.Repeat("x", 200) + "\r\n", "broken 400", 202},
			{"x:" + strings.Repeat("y", 198) + "\r\n\r\n", "broken 431", 202},
			// No field, and too great: that it is none is said first.
			{"x :" + strings.Repeat("y", 197) + "\r\n\r\n", "broken 400", 202},
		} {
			r := readerOf(t, 200, 10)
			read(r, ahead)
			wantRead(t, r, c.bytes, c.n, c.piece, false, 0)
		}
	}
}

func TestSizeOfTheList(t *testing.T) {
	// Host: h counts 37, x and its value 33 and the value's bytes, y 33.
	field := func(n int) string { return "x: \t" + strings.Repeat("v", n) + "\t" }
	r := readerOf(t, 200, 10)
	want(t, r, lines(get, host, field(130), ""), `head GET http "h" "/" [x: "`+strings.Repeat("v", 130)+`"]`)
	want(t, r, lines(get, host, "y:", field(97), ""), `head GET http "h" "/" [y: ""] [x: "`+strings.Repeat("v", 97)+`"]`)
	wantBroken(t, 431, lines(get, host, field(131)))
	wantBroken(t, 431, lines(get, field(131), host))
	wantBroken(t, 431, lines(get, host, field(97), "y: 1"))
	// The list of the trailers is reckoned anew.
	want(t, r, chunked()+lines("0", field(167), ""), chunkedRead, `all [x: "`+strings.Repeat("v", 167)+`"]`)
	wantBroken(t, 431, chunked()+lines("0", field(168)))
	wantBroken(t, 431, chunked()+lines("0", field(134), "y: 1"))
	// So is the one of each request.
	for range 3 {
		want(t, r, lines(get, host, field(130), ""), `head GET http "h" "/" [x: "`+strings.Repeat("v", 130)+`"]`)
	}
	// Blanks do not count, but to the line.
	want(t, r, lines(get, host, "x:"+strings.Repeat(" ", 198), ""), `head GET http "h" "/" [x: ""]`)
	wantBroken(t, 431, lines(get, host)+"x:"+strings.Repeat(" ", 199))
	wantBroken(t, 431, chunked()+lines("0")+"x:"+strings.Repeat(" ", 199))
}

// P21.2: the whole head

func TestTransferEncoding(t *testing.T) {
	for _, value := range []string{"chunked", "Chunked", "CHUNKED", " chunked ", ",chunked,", "chunked, ,", "\tchunked\t,"} {
		want(t, readerOf(t, 200, 10), lines("POST /a HTTP/1.1", host, "TRANSFER-ENCODING:"+value, ""), chunkedRead)
		want(t, readerOf(t, 200, 0), lines("POST /a HTTP/1.1", "transfer-encoding:", host, "transfer-encoding: "+value, ""), chunkedRead)
	}
	for _, value := range []string{"", ",", " , ,", "\t"} {
		wantBroken(t, 400, lines(get, host, "Transfer-Encoding:"+value, ""))
		wantBroken(t, 400, lines(get, host, "Transfer-Encoding:"+value, "Transfer-Encoding:", ""))
	}
	for _, value := range []string{"gzip", "gzip, chunked", "chunked, gzip", "chunked, chunked", "chunked;q=1", "\"chunked\"", "identity", "chunke", "chunkedx", "chun\u212aed", "\"chunked,"} {
		wantBroken(t, 501, lines(get, host, "Transfer-Encoding: "+value, ""))
		wantBroken(t, 501, lines(get, host, "Transfer-Encoding: chunked", "Transfer-Encoding: "+value, ""))
	}
}

func TestFlawsOfAHeadInTheirOrder(t *testing.T) {
	coding, none, two := "Transfer-Encoding: chunked", "Transfer-Encoding:", "Transfer-Encoding: a, b"
	length, great, wrong := "Content-Length: 1", "Content-Length: 11", "Content-Length: x"
	expect := "Expect: x"
	for _, c := range []struct {
		status int
		lines  []string
	}{
		{400, []string{"GET / HTTP/1.0", host, coding, ""}},
		{400, []string{"GET / HTTP/1.0", host, two, great, expect, ""}},
		{400, []string{get, host, two, length, ""}}, {400, []string{get, host, coding, great, ""}}, {400, []string{get, host, coding, "Content-Length: 0", ""}}, {400, []string{get, host, wrong, none, ""}},
		{400, []string{get, host, none, expect, ""}}, {501, []string{get, host, two, expect, ""}}, {501, []string{get, two, ""}}, {501, []string{"GET * HTTP/1.1", two, ""}},
		{400, []string{get, host, wrong, expect, ""}}, {413, []string{get, host, great, expect, ""}}, {413, []string{get, great, ""}}, {413, []string{"GET * HTTP/1.1", great, host, ""}},
		{400, []string{get, host, length, "Content-Length: 2", expect, ""}}, {400, []string{get, host, great, length, ""}},
		{417, []string{get, expect, ""}}, {417, []string{get, expect, host, host, ""}}, {417, []string{"GET a HTTP/1.1", host, expect, ""}},
		{400, []string{get, ""}}, {400, []string{get, host, host, ""}}, {400, []string{"GET a HTTP/1.1", host, ""}}, {400, []string{"GET / HTTP/1.0", host, host, ""}},
	} {
		wantBroken(t, c.status, lines(c.lines...))
		// A whole head is broken by its last LF.
		r := readerOf(t, 200, 10)
		data := lines(c.lines...)
		wantRead(t, r, data[:len(data)-2]+"\r", len(data)-1, "more", true, heldOfHead(c.lines)+1)
		wantRead(t, r, "\nGET", 1, fmt.Sprintf("broken %d", c.status), false, 0)
	}
}

// heldOfHead is how many bytes are kept of a whole head, its values without blanks around.
func heldOfHead(lines []string) int {
	parts := strings.Split(lines[0], " ")
	held := len(parts[0]) + len(parts[1])
	for _, line := range lines[1:] {
		name, value, _ := strings.Cut(line, ":")
		held += len(name) + len(strings.Trim(value, " \t"))
	}
	return held
}

func TestLengthOfTheBody(t *testing.T) {
	for _, c := range []struct {
		value string
		n     int
	}{{"1", 1}, {"10", 10}, {"\t7 ", 7}} {
		body := strings.Repeat("b", c.n)
		want(t, readerOf(t, 200, 10), lines("POST / HTTP/1.1", host, "Content-Length:"+c.value, "")+body+"G",
			fmt.Sprintf(`head POST http "h" "/" [content-length: "%d"] has`, c.n), fmt.Sprintf("body %q", body), "all")
	}
	same := lines(get, host, "Content-Length: 2", "content-length: 2", "")
	want(t, readerOf(t, 200, 10), same+"ab", `head GET http "h" "/" [content-length: "2"] [content-length: "2"] has`, `body "ab"`, "all")
	for _, limit := range []int{0, 10} {
		r := readerOf(t, 200, limit)
		want(t, r, lines(get, host, "Content-Length: 0", ""), `head GET http "h" "/" [content-length: "0"]`)
		wantState(t, r, false, 0)
	}
	for _, value := range []string{"", "+1", "-1", "01", "1.0", "0x1", "1, 1", "1 1", "9999999999999999", "1000000000000000"} {
		wantBroken(t, 400, lines(get, host, "Content-Length: "+value, ""))
	}
	for _, value := range []string{"11", "100", "999999999999999"} {
		wantBroken(t, 413, lines(get, host, "Content-Length: "+value, ""))
	}
	wantRead(t, readerOf(t, 200, 0), lines(get, host, "Content-Length: 1", ""), 46, "broken 413", false, 0)
}

func TestExpect(t *testing.T) {
	head := func(version, value string, more ...string) string {
		return lines(slices.Concat([]string{"POST / " + version, host, "Expect:" + value}, more, []string{""})...)
	}
	for _, value := range []string{"100-continue", " 100-Continue\t", "100-CONTINUE"} {
		trimmed := fmt.Sprintf(" [expect: %q]", strings.Trim(value, " \t"))
		want(t, readerOf(t, 200, 10), head("HTTP/1.1", value, "Content-Length: 1"), `head POST http "h" "/"`+trimmed+` [content-length: "1"] has wait`)
		want(t, readerOf(t, 200, 10), head("HTTP/1.1", value, "Transfer-Encoding: chunked"), `head POST http "h" "/"`+trimmed+` has wait`)
		// There is nothing to wait for without a body, and an old client does not know of it.
		want(t, readerOf(t, 200, 10), head("HTTP/1.1", value), `head POST http "h" "/"`+trimmed)
		want(t, readerOf(t, 200, 10), head("HTTP/1.1", value, "Content-Length: 0"), `head POST http "h" "/"`+trimmed+` [content-length: "0"]`)
		want(t, readerOf(t, 200, 10), head("HTTP/1.0", value, "Content-Length: 1"), `head POST http "h" "/"`+trimmed+` [content-length: "1"] has old last`)
	}
	// A field that the connection field names is not the request's, but it was there.
	want(t, readerOf(t, 200, 10), head("HTTP/1.1", "100-continue", "Connection: expect", "Content-Length: 1"), `head POST http "h" "/" [content-length: "1"] has wait`)
	want(t, readerOf(t, 200, 10), head("HTTP/1.1", "100-continue", "Expect: 100-continue", "Content-Length: 1"),
		`head POST http "h" "/" [expect: "100-continue"] [expect: "100-continue"] [content-length: "1"] has wait`)
	for _, value := range []string{"", "100", "200", "200-continue", "100-continue, 100-continue", "100-continue,", "100_continue", "x"} {
		for _, version := range []string{"HTTP/1.1", "HTTP/1.0"} {
			wantBroken(t, 417, head(version, value))
			wantBroken(t, 417, head(version, value, "Expect: 100-continue"))
			wantBroken(t, 417, head(version, "100-continue", "Expect: "+value, "Content-Length: 1"))
		}
	}
}

func TestLast(t *testing.T) {
	for _, c := range []struct {
		values    []string
		last, old string
	}{
		{nil, "", " last"}, {[]string{""}, "", " last"}, {[]string{"x"}, "", " last"},
		{[]string{"close"}, " last", " last"}, {[]string{"Close"}, " last", " last"}, {[]string{"x, CLOSE ,y"}, " last", " last"}, {[]string{"x", "close"}, " last", " last"},
		{[]string{"keep-alive"}, "", ""}, {[]string{"Keep-Alive"}, "", ""}, {[]string{"x,KEEP-ALIVE"}, "", ""}, {[]string{"x", "keep-alive", "y"}, "", ""},
		{[]string{"keep-alive, close"}, " last", " last"}, {[]string{"close", "keep-alive"}, " last", " last"}, {[]string{"keep-alive", "close"}, " last", " last"},
		{[]string{"closed"}, "", " last"}, {[]string{"close;x"}, "", " last"}, {[]string{"keepalive"}, "", " last"}, {[]string{"keep-alive=1"}, "", " last"}, {[]string{`"close"`}, "", " last"}, {[]string{`"x, close`}, "", " last"}, {[]string{`"x`, "close"}, " last", " last"},
	} {
		var fields []string
		for _, v := range c.values {
			fields = append(fields, "Connection: "+v)
		}
		for _, body := range []string{"", "Content-Length: 1"} {
			more, has := "", ""
			all := slices.Concat(fields, []string{host})
			if body != "" {
				all = append(all, body)
				more, has = ` [content-length: "1"]`, " has"
			}
			rest := lines(append(all, "")...)
			want(t, readerOf(t, 300, 10), "GET / HTTP/1.1\r\n"+rest, `head GET http "h" "/"`+more+has+c.last)
			want(t, readerOf(t, 300, 10), "GET / HTTP/1.0\r\n"+rest, `head GET http "h" "/"`+more+has+" old"+c.old)
		}
	}
	// Other fields of such words do not count.
	want(t, readerOf(t, 200, 10), lines(get, host, "x: close", "Proxy-Connection: close", ""), `head GET http "h" "/" [x: "close"]`)
	want(t, readerOf(t, 200, 10), lines("GET / HTTP/1.0", "Keep-Alive: keep-alive", ""), `head GET http "" "/" old last`)
}

func TestOldWithoutHost(t *testing.T) {
	want(t, readerOf(t, 200, 10), lines("GET http://x/y HTTP/1.0", "a: 1", ""), `head GET http "x" "/y" [a: "1"] old last`)
	want(t, readerOf(t, 200, 10), lines("GET /y HTTP/1.0", "Host: x", ""), `head GET http "x" "/y" old last`)
	want(t, readerOf(t, 200, 10), lines("GET /y HTTP/1.0", "Host:", ""), `head GET http "" "/y" old last`)
	want(t, readerOf(t, 200, 10), lines("GET /y HTTP/1.1", "Host:", ""), `head GET http "" "/y"`)
	wantBroken(t, 400, lines("GET http://x/y HTTP/1.1", ""))
	// The host that is thought of does not count: the list may be full.
	full := "x: " + strings.Repeat("v", 167)
	want(t, readerOf(t, 200, 10), lines("GET / HTTP/1.0", full, ""), `head GET http "" "/" [x: "`+strings.Repeat("v", 167)+`"] old last`)
}

// What a request is, is msg's to say.
func TestRequestIsOne(t *testing.T) {
	fields := of("x", "1", "host", "h", "te", "trailers", "connection", "A, close", "a", "2", "b", "", "x", "3", "upgrade", "y")
	q, err := msg.One("PUT", "https://z/?q", fields)
	if err != api.OK {
		t.Fatal(int(err))
	}
	p := api.Piece{Mark: api.HeadRead, Request: q, Last: true}
	want(t, readerOf(t, 2000, 0), lines("PUT https://z/?q HTTP/1.1", "X: 1", host, "TE: trailers", "Connection: A, close", "A: 2", "B:", "X: 3", "Upgrade: y", ""), tell(p))
}
