package h1write

import (
	"bufio"
	"fmt"
	"io"
	"net/http"
	"regexp"
	"slices"
	"strconv"
	"strings"
	"testing"

	"ostler/api"
)

// numbers are some that look scattered, the same ones for the same seed.
func numbers(seed uint64) func(n int) int {
	return func(n int) int {
		seed = seed*6364136223846793005 + 1442695040888963407
		return int(seed>>33) % n
	}
}

// The plain reading of the chapter's words.

var (
	plainName   = regexp.MustCompile("^[A-Za-z0-9!#$%&'*+.^_`|~-]+$")
	plainValue  = regexp.MustCompile(`^([!-~\x80-\xFF]([\t -~\x80-\xFF]*[!-~\x80-\xFF])?)?$`)
	plainLength = regexp.MustCompile(`^(0|[1-9][0-9]{0,14})$`)
	plainOwn    = regexp.MustCompile(`^(?i:connection|keep-alive|proxy-connection|transfer-encoding|upgrade)$`)
)

// readingOf is what P22.2 asks for.
func readingOf(a ask) ([]string, api.Errno) {
	for _, f := range slices.Concat(a.r.Fields, a.r.Trailers) {
		// The expressions read runes, so each byte is made one of its own.
		if !plainName.MatchString(f.Name) || !plainValue.MatchString(wide(f.Value)) {
			return nil, api.ErrSplit
		}
	}
	status := a.r.Status
	if status < 100 || status > 999 {
		status = 500
	}
	bodyless := a.head || status < 200 || status == 204 || status == 304
	said := ""
	for _, f := range a.r.Fields {
		if strings.EqualFold(f.Name, "content-length") {
			if !plainLength.MatchString(f.Value) || said != "" && said != f.Value {
				return nil, api.ErrLength
			}
			said = f.Value
		}
	}
	if !bodyless && said != "" && said != strconv.Itoa(len(a.r.Body)) {
		return nil, api.ErrLength
	}
	top := fmt.Sprintf("HTTP/1.1 %d %s\r\n%s", status, phrase(status), fieldLines(a.r.Fields))
	untold := !bodyless && said == ""
	if untold && !a.old {
		top += "transfer-encoding: chunked\r\n"
	}
	if a.last || a.old && untold {
		top += "connection: close\r\n"
	} else if a.old {
		top += "connection: keep-alive\r\n"
	}
	pieces := []string{top + "\r\n"}
	if bodyless {
		return pieces, api.OK
	}
	for part := range slices.Chunk([]byte(a.r.Body), 16384) {
		if untold && !a.old {
			pieces = append(pieces, fmt.Sprintf("%x\r\n%s\r\n", len(part), part))
		} else {
			pieces = append(pieces, string(part))
		}
	}
	if untold && !a.old {
		pieces = append(pieces, "0\r\n"+fieldLines(a.r.Trailers)+"\r\n")
	}
	return pieces, api.OK
}

// wide is a text with a rune for each byte.
func wide(s string) string {
	var runes []rune
	for i := range len(s) {
		runes = append(runes, rune(s[i]))
	}
	return string(runes)
}

func fieldLines(fields []api.Field) string {
	out := ""
	for _, f := range fields {
		if !plainOwn.MatchString(f.Name) {
			out += strings.ToLower(f.Name) + ": " + f.Value + "\r\n"
		}
	}
	return out
}

func checkReading(t *testing.T, a ask) {
	t.Helper()
	want, wantErr := readingOf(a)
	got, err := a.pieces()
	if err != wantErr || !slices.Equal(got, want) {
		t.Fatalf("%+v: %.300q, %d; not %.300q, %d", a, got, int(err), want, int(wantErr))
	}
	if err == api.OK {
		checkClient(t, a, got)
	}
}

// Bodies at the borders of their parts.
func TestParts(t *testing.T) {
	body := strings.Repeat("0123456789abcdef!", 6000)
	for _, n := range []int{0, 1, 9, 10, 15, 16, 17, 255, 256, 16383, 16384, 16385, 32767, 32768, 32769, 49152, 65536, 65537, 100000} {
		for _, fields := range [][]api.Field{nil, of("content-length", strconv.Itoa(n))} {
			for _, a := range ways(api.Response{Status: 200, Fields: fields, Body: body[:n], Trailers: of("t", "v")}) {
				checkReading(t, a)
				got, _ := a.pieces()
				count := (n + 16383) / 16384
				switch {
				case a.head:
					count = 0
				case fields == nil && !a.old:
					count++
				}
				if len(got) != 1+count {
					t.Errorf("%d bytes: %d pieces", n, len(got))
				}
			}
		}
	}
}

func TestScattered(t *testing.T) {
	next := numbers(22)
	pick := func(l ...string) string { return l[next(len(l))] }
	fields := func() []api.Field {
		var list []api.Field
		for range next(5) {
			f := api.Field{Name: pick("a", "X-b", "T", "Connection", "te", "upgrade", "keep-alive", "Content-Type"), Value: pick("", "1", "a b", "C;\t\xE4", "chunked")}
			if next(4) == 0 {
				f = api.Field{Name: pick("content-length", "Content-Length"), Value: pick("0", "1", "2", "2", "2", "20000", "02")}
			}
			if next(40) == 0 {
				f.Name = pick("", ":a", "a b", "ä", "x\r\n")
			}
			if next(40) == 0 {
				f.Value = pick(" a", "a\t", "a\r\nb: c", "\x00", "a\x7Fb")
			}
			list = append(list, f)
		}
		return list
	}
	for range 40000 {
		a := ask{old: next(2) == 0, head: next(4) == 0, last: next(2) == 0}
		a.r.Status = []int{200, 200, 200, 206, 404, 204, 304, 100, 199, 500, 99, 999, 1000, 0, -200}[next(15)]
		a.r.Body = []string{"", "a", "ab", "ab", "0\r\n\r\n"}[next(5)]
		if next(100) == 0 {
			a.r.Body = strings.Repeat("z", 20000)
		}
		a.r.Fields, a.r.Trailers = fields(), fields()
		checkReading(t, a)
	}
}

// P22.4: a client that reads the pieces one behind the other finds everything again.

func checkClient(t *testing.T, a ask, pieces []string) {
	t.Helper()
	const behind = "HTTP/1.1 200 OK\r\nbehind: it\r\n\r\n"
	all := strings.Join(pieces, "")
	top := strings.Split(strings.TrimSuffix(pieces[0], "\r\n\r\n"), "\r\n")
	own := 0
	for _, f := range a.r.Fields {
		if plainOwn.MatchString(f.Name) {
			own++
		}
	}
	if n := len(top) - (len(a.r.Fields) - own); n < 1 || n > 3 || !strings.HasSuffix(pieces[0], "\r\n\r\n") {
		t.Fatalf("%+v: a head of %d lines more: %q", a, n, pieces[0])
	}
	c := client{rest: all + behind}
	c.read(a.head)
	toEnd := a.old && c.bodied && !c.sized
	if toEnd {
		c.body, c.rest = strings.TrimSuffix(c.rest, behind), behind
	}
	want := a.r.Body
	if !c.bodied {
		want = ""
	}
	status := a.r.Status
	if status < 100 || status > 999 {
		status = 500
	}
	if c.status != status || c.body != want || c.rest != behind {
		t.Fatalf("%+v: the client reads %d %.300q, and behind it %.300q", a, c.status, c.body, c.rest)
	}
	if fieldLines(c.fields) != fieldLines(a.r.Fields) || c.chunked && fieldLines(c.trailers) != fieldLines(a.r.Trailers) {
		t.Fatalf("%+v: the client reads %v, %v", a, c.fields, c.trailers)
	}
	if c.closes != (a.last || toEnd) {
		t.Fatalf("%+v: the client thinks that it ends: %v", a, c.closes)
	}
}

// client reads a response from the bytes alone.
type client struct {
	rest                           string
	status                         int
	fields, trailers               []api.Field
	body                           string
	bodied, sized, chunked, closes bool
}

func (c *client) line() string {
	line, rest, _ := strings.Cut(c.rest, "\r\n")
	c.rest = rest
	return line
}

func (c *client) lines() []api.Field {
	var list []api.Field
	for line := c.line(); line != ""; line = c.line() {
		name, value, _ := strings.Cut(line, ": ")
		list = append(list, api.Field{Name: name, Value: value})
	}
	return list
}

func (c *client) read(head bool) {
	words := strings.SplitN(c.line(), " ", 3)
	c.status, _ = strconv.Atoi(words[1])
	c.fields = c.lines()
	length := 0
	for _, f := range c.fields {
		switch f.Name {
		case "content-length":
			length, _ = strconv.Atoi(f.Value)
			c.sized = true
		case "transfer-encoding":
			c.chunked = f.Value == "chunked"
		case "connection":
			c.closes = f.Value == "close"
		}
	}
	c.bodied = !head && c.status >= 200 && c.status != 204 && c.status != 304
	switch {
	case c.bodied && c.chunked:
		c.chunks()
	case c.bodied && c.sized:
		c.body, c.rest = c.rest[:length], c.rest[length:]
	}
}

func (c *client) chunks() {
	for {
		size, _ := strconv.ParseInt(c.line(), 16, 64)
		if size == 0 {
			break
		}
		c.body += c.rest[:size]
		c.rest = c.rest[size+2:]
	}
	c.trailers = c.lines()
}

// The library's own client reads a response as it was meant, too.
func TestLibraryClient(t *testing.T) {
	for _, body := range []string{"", "a", "0\r\n\r\n", strings.Repeat("long", 10000)} {
		for _, sized := range []bool{false, true} {
			r := api.Response{Status: 404, Fields: of("X-A", "1", "x-a", "2"), Body: body, Trailers: of("T", "v")}
			if sized {
				r.Fields = append(r.Fields, of("content-length", strconv.Itoa(len(body)))...)
			}
			for _, a := range ways(r) {
				checkLibrary(t, a, sized)
			}
		}
	}
}

func checkLibrary(t *testing.T, a ask, sized bool) {
	t.Helper()
	pieces, err := a.pieces()
	method := http.MethodGet
	if a.head {
		method = http.MethodHead
	}
	got, fault := http.ReadResponse(bufio.NewReader(strings.NewReader(strings.Join(pieces, ""))), &http.Request{Method: method})
	if err != api.OK || fault != nil {
		t.Fatal(int(err), fault)
	}
	body, fault := io.ReadAll(got.Body)
	want := a.r.Body
	if a.head {
		want = ""
	}
	if fault != nil || string(body) != want || got.Status != "404 Not Found" || !slices.Equal(got.Header["X-A"], []string{"1", "2"}) {
		t.Errorf("%v: %v %.100q %v", fault, got.Status, body, got.Header)
	}
	chunked := !a.head && !a.old && !sized
	if chunked != slices.Equal(got.TransferEncoding, []string{"chunked"}) || chunked != (got.Trailer.Get("T") == "v") {
		t.Errorf("%v %v", got.TransferEncoding, got.Trailer)
	}
	if got.Close != (a.last || !a.head && a.old && !sized) {
		t.Errorf("%+v: closes %v", a, got.Close)
	}
}
