package h1read

import (
	"fmt"
	"math"
	"slices"
	"strings"
	"testing"

	"ostler/api"
	"ostler/msg"
)

// P21.2: bodies

func TestBodyInPortions(t *testing.T) {
	head := lines("POST / HTTP/1.1", host, "Content-Length: 5", "")
	read := `head POST http "h" "/" [content-length: "5"] has`
	r := readerOf(t, 200, 10)
	wantRead(t, r, head+"abcdeGET", len(head), read, true, 0)
	wantRead(t, r, "", 0, "more", true, 0)
	wantRead(t, r, "ab", 2, `body "ab"`, true, 0)
	wantRead(t, r, "", 0, "more", true, 0)
	wantRead(t, r, "cdeGET", 3, `body "cde"`, true, 0)
	wantRead(t, r, "GET", 0, "all", false, 0)
	wantRead(t, r, "GET", 3, "more", true, 3)

	r = readerOf(t, 200, 10)
	wantRead(t, r, head, len(head), read, true, 0)
	wantRead(t, r, "\r\n\x00\xff\r", 5, `body "\r\n\x00\xff\r"`, true, 0)
	wantRead(t, r, "", 0, "all", false, 0)
	wantRead(t, r, "", 0, "more", false, 0)
}

func TestChunksInPortions(t *testing.T) {
	r := readerOf(t, 200, 10)
	head := chunked()
	wantRead(t, r, head+"3", len(head), chunkedRead, true, 0)
	wantRead(t, r, "", 0, "more", true, 0)
	wantRead(t, r, "3;", 2, "more", true, 2)
	wantRead(t, r, "x\r", 2, "more", true, 4)
	wantRead(t, r, "\n", 1, "more", true, 0)
	wantRead(t, r, "a", 1, `body "a"`, true, 0)
	wantRead(t, r, "", 0, "more", true, 0)
	wantRead(t, r, "bc\r\n", 2, `body "bc"`, true, 0)
	// What stands behind a chunk is no line that is kept.
	wantRead(t, r, "\r", 1, "more", true, 0)
	wantRead(t, r, "\n", 1, "more", true, 0)
	// The rest of one chunk's end, and a whole chunk.
	wantRead(t, r, "2\r\nde\r\n0", 5, `body "de"`, true, 0)
	wantRead(t, r, "\r\n00\r\n", 6, "more", true, 0)
	wantRead(t, r, "T: \tv \r\nu", 9, "more", true, 3)
	wantRead(t, r, ":\r", 2, "more", true, 5)
	wantRead(t, r, "\n\r", 2, "more", true, 4)
	wantRead(t, r, "\nGET", 1, `all [t: "v"] [u: ""]`, false, 0)
	wantRead(t, r, "GET", 3, "more", true, 3)
}

func TestSizeLines(t *testing.T) {
	for _, c := range []struct{ line, body string }{
		{"1", "x"}, {"a", "0123456789"}, {"A", "0123456789"}, {"00000000000000a", "0123456789"}, {"000000000000001", "x"}, {"2;", "xy"}, {"2;a=b;c", "xy"}, {"2; \t\x00\xff", "xy"}, {"1" + strings.Repeat(";", 255), "x"},
	} {
		want(t, readerOf(t, 200, 10), chunked()+lines(c.line, c.body, "0", ""), chunkedRead, fmt.Sprintf("body %q", c.body), "all")
		// The list's limit has no part in it.
		want(t, readerOf(t, 100, 10), chunked()+lines(c.line, c.body, "000000000000000", ""), chunkedRead, fmt.Sprintf("body %q", c.body), "all")
	}
	for _, line := range []string{"", ";", ";a", "g", "x", " 1", "1 ", "1 ;a", "\t1", "-1", "+1", "0x1", "1_0", "1.", "0000000000000001", "0000000000000000", "1000000000000000", "7fffffffffffffff", "ffffffffffffffff", "10000000000000001", "1,2", "\x80"} {
		wantBroken(t, 400, chunked()+lines(line))
		wantBroken(t, 400, chunked()+lines("1", "x", line))
	}
	for _, line := range []string{"b", "B", "10", "fffffffffffffff", "00000000000000b", "b;x"} {
		wantBroken(t, 413, chunked()+lines(line))
	}
	r := readerOf(t, 200, 10)
	want(t, r, chunked(), chunkedRead)
	wantRead(t, r, "1"+strings.Repeat(";", 256)+"\r\n", 257, "broken 400", false, 0)
	r = readerOf(t, 200, 10)
	want(t, r, chunked(), chunkedRead)
	wantRead(t, r, strings.Repeat("x", 256)+"\r\n", 258, "broken 400", false, 0)
}

func TestSizesTogether(t *testing.T) {
	want(t, readerOf(t, 200, 10), chunked()+lines("3", "abc", "3", "def", "4", "ghij", "0", ""), chunkedRead, `body "abc"`, `body "def"`, `body "ghij"`, "all")
	// Told behind its line, not behind its bytes.
	r := readerOf(t, 200, 10)
	want(t, r, chunked()+lines("3", "abc", "3", "def"), chunkedRead, `body "abc"`, `body "def"`)
	wantRead(t, r, "5\r\nghijk\r\n", 3, "broken 413", false, 0)
	wantBroken(t, 413, chunked()+lines("a", "0123456789", "1", "x"))
	// The bodies of two requests have nothing to do with one another.
	r = readerOf(t, 200, 10)
	for range 3 {
		want(t, r, chunked()+lines("a", "0123456789", "0", ""), chunkedRead, `body "0123456789"`, "all")
	}
	// No room at all, and all there is.
	want(t, readerOf(t, 200, 0), chunked()+lines("0", ""), chunkedRead, "all")
	want(t, readerOf(t, 200, 0), chunked()+lines("1"), chunkedRead, "broken 413")
	most := readerOf(t, 200, math.MaxInt64)
	want(t, most, chunked()+lines("fffffffffffffff"), chunkedRead)
	wantRead(t, most, "abc", 3, `body "abc"`, true, 0)
}

func TestEndsOfChunks(t *testing.T) {
	for _, c := range []struct {
		end string
		n   int
	}{{"\n", 1}, {"x\r\n", 1}, {"0\r\n", 1}, {" \r\n", 1}, {"\r\r\n", 2}, {"\rx", 2}, {"\r0", 2}} {
		r := readerOf(t, 200, 10)
		want(t, r, chunked()+"2\r\nab", chunkedRead, `body "ab"`)
		wantRead(t, r, c.end, c.n, "broken 400", false, 0)
	}
	wantBroken(t, 400, chunked()+lines("2", "abc"))
	wantBroken(t, 400, chunked()+lines("2", "a", "b"))
}

func TestTrailers(t *testing.T) {
	want(t, readerOf(t, 200, 10), chunked()+lines("0", "A: 1", "b:", "a: 2", ""), chunkedRead, `all [a: "1"] [b: ""] [a: "2"]`)
	for _, line := range []string{"host: h", "Host: h", "TE: trailers", "content-length: 0", "Connection: x", "Transfer-Encoding: chunked", "cookie: a", "Expect: 100-continue", "Trailer: x"} {
		ahead := chunked() + lines("0", "x: 1", line)
		r := readerOf(t, 200, 10)
		want(t, r, ahead, chunkedRead)
		// What msg says of them is told behind them all.
		wantRead(t, r, "y: 2\r\n\r\nGET", 8, "broken 400", false, 0)
	}
	// The limit of a line holds here, too.
	r := readerOf(t, 100, 10)
	want(t, r, chunked()+lines("0"), chunkedRead)
	wantRead(t, r, strings.Repeat("x", 102), 101, "broken 431", false, 0)
}

// P21.2: what is broken stays so

func TestBrokenForGood(t *testing.T) {
	for _, c := range []struct {
		data   string
		status int
	}{
		{"\n", 400}, {strings.Repeat("x", 201), 414}, {lines("G G HTTP/3.0"), 505}, {lines(get) + strings.Repeat("x", 201), 431}, {lines(get, host, "Expect: x", ""), 417},
		{lines(get, host, "Transfer-Encoding: x", ""), 501}, {chunked() + "\n", 400}, {chunked() + lines("b"), 413}, {chunked() + lines("1", "ab"), 400}, {chunked() + lines("0", "te: x", ""), 400},
	} {
		r := readerOf(t, 200, 10)
		wantBroken(t, c.status, c.data)
		read(r, c.data)
		for _, data := range []string{"", "G", "\r\n", lines(get, host, ""), "\n"} {
			wantRead(t, r, data, 0, fmt.Sprintf("broken %d", c.status), false, 0)
		}
	}
}

// P21.3

func TestWithinAndHeld(t *testing.T) {
	r := readerOf(t, 200, 10)
	for _, c := range []struct {
		data   string
		within bool
		held   int
	}{
		{"\r", true, 1}, {"\n", false, 0}, {"P", true, 1}, {"OST /ab HTTP/1.1", true, 17}, {"\r", true, 18}, {"\n", true, 7},
		{"X", true, 8}, {"Y", true, 9}, {": \t 12 ", true, 16}, {"\r", true, 17}, {"\n", true, 11},
		{"Host:h\r\n", true, 16}, {"Transfer-Encoding: chunked\r\n", true, 40}, {"\r", true, 41},
		{"\n", true, 0}, {"2", true, 1}, {";a", true, 3}, {"\r", true, 4}, {"\n", true, 0}, {"a", true, 0}, {"b", true, 0}, {"\r", true, 0}, {"\n", true, 0},
		{"0", true, 1}, {"\r", true, 2}, {"\n", true, 0}, {"x: 1", true, 4}, {"\r\n", true, 2}, {"Y:2\r", true, 6}, {"\n", true, 4}, {"\r", true, 5}, {"\n", false, 0},
		{"\r", true, 1}, {"\n", false, 0}, {"GET / HTTP/1.0\r\n", true, 4}, {"\r", true, 5}, {"\n", false, 0},
		{"G", true, 1}, {"\n", false, 0}, {"G", false, 0},
	} {
		read(r, c.data)
		if r.Within() != c.within || r.Held() != c.held {
			t.Fatalf("behind %q: %v, %d; not %v, %d", c.data, r.Within(), r.Held(), c.within, c.held)
		}
	}
}

// P21.4: the most that is held

func TestHeldIsBounded(t *testing.T) {
	for _, list := range []int{1, 14, 16, 33, 40, 64, 100, 300} {
		next := numbers(uint64(list))
		most, bound := 0, 3*list+257
		for range 60 {
			r := readerOf(t, list, 10)
			for _, data := range heavy(next, list) {
				read(r, data)
				most = max(most, r.Held())
			}
		}
		if most > bound {
			t.Errorf("List %d: %d bytes are held, more than %d", list, most, bound)
		}
		if list >= 100 && most < 2*list-70 {
			t.Errorf("List %d: no more than %d bytes are held: the test has no weight", list, most)
		}
	}
}

// heavy is bytes of a request that has much to keep, one by one.
func heavy(next func(int) int, list int) []string {
	data := "G /" + strings.Repeat("a", max(0, list-12-next(3))) + " HTTP/1.0\r\n"
	if next(2) == 0 {
		data = chunked() + lines("0"+strings.Repeat(";", next(257)), strings.Repeat("t", next(list))+":")
	}
	for size := 0; next(9) > 0 && size < list; {
		value := next(list + 1 - size)
		data += lines("x:" + strings.Repeat(" ", next(9)) + strings.Repeat("v", value))
		size += 33 + value
	}
	data += strings.Repeat("x", list+next(2)) + "\r"
	return strings.Split(data, "")
}

// P21.5

// sent is a request as a client writes it plainly; its body in chunks of these sizes, or, if there are none, with its length.
func sent(method, target string, fields []api.Field, body string, sizes []int, trailers []api.Field) string {
	all := lines(method + " " + target + " HTTP/1.1")
	for _, f := range fields {
		all += lines(f.Name + ": " + f.Value)
	}
	if len(sizes) == 0 {
		return all + lines(fmt.Sprintf("content-length: %d", len(body)), "") + body
	}
	all += lines("transfer-encoding: chunked", "")
	for _, size := range sizes {
		all += lines(fmt.Sprintf("%x", size), body[:size])
		body = body[size:]
	}
	all += lines("0")
	for _, f := range trailers {
		all += lines(f.Name + ": " + f.Value)
	}
	return all + lines("")
}

func TestWhatIsSentIsRead(t *testing.T) {
	next := numbers(5)
	r := readerOf(t, 4000, 2000)
	for range 2000 {
		method := []string{"GET", "POST", "x!", "HEAD"}[next(4)]
		target := []string{"/", "/a/b?c", "/%20", "http://x/y", "https://z"}[next(5)]
		fields, trailers := of("host", "h"), of()
		for range next(5) {
			f := api.Field{Name: []string{"a", "accept", "x-y", "cookie"}[next(4)], Value: []string{"", "1", "a, b", "\"x\xff", "c: d"}[next(5)]}
			fields = append(fields, f)
			if f.Name != "cookie" {
				trailers = append(trailers, f)
			}
		}
		body := ""
		for range next(300) {
			body += oneByte(next(256))
		}
		var sizes []int
		if next(2) == 0 && body != "" {
			for left := len(body); left > 0; left -= sizes[len(sizes)-1] {
				sizes = append(sizes, 1+next(left))
			}
		}
		wantSent(t, r, method, target, fields, body, sizes, trailers)
	}
}

func wantSent(t *testing.T, r *Reader, method, target string, fields []api.Field, body string, sizes []int, trailers []api.Field) {
	t.Helper()
	if len(sizes) == 0 {
		trailers = nil
	}
	data := sent(method, target, fields, body, sizes, trailers)
	if len(sizes) == 0 {
		fields = slices.Concat(fields, of("content-length", fmt.Sprint(len(body))))
	}
	q, err := msg.One(method, target, fields)
	if err != api.OK {
		t.Fatal(int(err))
	}
	pieces := []string{tell(api.Piece{Mark: api.HeadRead, Request: q, Has: body != ""})}
	if body != "" && len(sizes) == 0 {
		sizes = []int{len(body)}
	}
	for rest := body; len(sizes) > 0; sizes = sizes[1:] {
		pieces = append(pieces, fmt.Sprintf("body %q", rest[:sizes[0]]))
		rest = rest[sizes[0]:]
	}
	if body != "" {
		pieces = append(pieces, tell(api.Piece{Mark: api.AllRead, Fields: trailers}))
	}
	want(t, r, data, pieces...)
}

// R2

func TestListsAreNew(t *testing.T) {
	r, other := readerOf(t, 400, 10), readerOf(t, 400, 10)
	data := lines("POST / HTTP/1.1", host, "a: 1", "b: 2", "Transfer-Encoding: chunked", "") + lines("1", "x", "0", "t: 1", "u: 2", "")
	var first []string
	for i := range 3 {
		for rest := data; ; {
			n, p := r.Read(rest)
			rest = rest[n:]
			told := tell(p)
			if i == 0 {
				first = append(first, told)
			} else if !slices.Contains(first, told) {
				t.Fatal(told, first)
			}
			for _, list := range [][]api.Field{p.Request.Fields, p.Fields} {
				list = list[:cap(list)]
				for j := range list {
					list[j] = api.Field{Name: "spoilt", Value: "\n"}
				}
			}
			if p.Mark == api.NeedMore {
				break
			}
		}
	}
	want(t, other, lines(get, host, ""), `head GET http "h" "/"`)
}

// R1: what is great

func TestGreatInputs(t *testing.T) {
	const great = 1 << 20
	r := readerOf(t, math.MaxInt64, math.MaxInt64)
	wantRead(t, r, strings.Repeat("\r\n", great), 2*great, "more", false, 0)
	wantRead(t, r, strings.Repeat(" ", great), great, "more", true, great)
	wantRead(t, r, "\r\n", 2, "broken 400", false, 0)

	r = readerOf(t, math.MaxInt64, math.MaxInt64)
	wantRead(t, r, lines("GET /"+strings.Repeat("a", great)+" HTTP/1.1"), great+16, "more", true, great+4)
	wantRead(t, r, strings.Repeat("x:\r\n", great), 4*great, "more", true, 2*great+4)
	wantRead(t, r, lines("Connection:"+strings.Repeat(",", great)), great+13, "more", true, 3*great+14)
	n, p := r.Read(lines("host: h", "Content-Length: 999999999999999", ""))
	if n != 44 || p.Mark != api.HeadRead || len(p.Request.Fields) != great+1 {
		t.Error(n, p.Mark, len(p.Request.Fields))
	}
	wantState(t, r, true, 0)
	body := strings.Repeat("b", great)
	if n, p := r.Read(body); n != great || p.Mark != api.BodyRead || p.Body != body {
		t.Error(n, p.Mark)
	}
	wantState(t, r, true, 0)
}
