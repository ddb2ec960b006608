package h1

import (
	"math"
	"reflect"
	"slices"
	"strings"
	"testing"

	"ostler/api"
	"ostler/h1read"
	"ostler/h1write"
)

// numbers are some that look scattered, the same ones for the same seed.
func numbers(seed uint64) func(n int) int {
	return func(n int) int {
		seed = seed*6364136223846793005 + 1442695040888963407
		return int(seed>>33) % n
	}
}

// of is fields, each a name and a value.
func of(texts ...string) []api.Field {
	var fields []api.Field
	for i := 0; i+1 < len(texts); i += 2 {
		fields = append(fields, api.Field{Name: texts[i], Value: texts[i+1]})
	}
	return fields
}

// lines are each with its end.
func lines(l ...string) string { return strings.Join(l, "\r\n") + "\r\n" }

// head is a head's lines, and the empty one behind them.
func head(l ...string) string { return lines(l...) + "\r\n" }

const host = "Host: h"

// get is a request without a body, of nine bytes that are held.
func get(more ...string) string {
	return head(append([]string{"GET / HTTP/1.1", host}, more...)...)
}

// post is a request's head, with a body of so many bytes to follow.
func post(length string, more ...string) string {
	return head(append([]string{"POST / HTTP/1.1", host, "Content-Length: " + length}, more...)...)
}

// old is a request of version 1.0.
func old(method string, more ...string) string {
	return head(append([]string{method + " / HTTP/1.0"}, more...)...)
}

const stays = "Connection: keep-alive"

var (
	answer = api.Response{Status: 200, Fields: of("content-length", "2"), Body: "ab"}
	empty  = api.Response{Status: 204}
)

const (
	answerHead = "HTTP/1.1 200 OK\r\ncontent-length: 2\r\n\r\n"
	lastHead   = "HTTP/1.1 200 OK\r\ncontent-length: 2\r\nconnection: close\r\n\r\n"
	keptHead   = "HTTP/1.1 200 OK\r\ncontent-length: 2\r\nconnection: keep-alive\r\n\r\n"
)

func connOf(t *testing.T) *Conn {
	t.Helper()
	c, err := New(api.Limits{List: 300, Body: 10})
	if c == nil || err != api.OK {
		t.Fatal("no connection", int(err))
	}
	return c
}

// fed is a connection on which these bytes were taken.
func fed(t *testing.T, data string) *Conn {
	t.Helper()
	c := connOf(t)
	feeds(t, c, data, len(data))
	return c
}

// taken is a connection whose one request is under way.
func taken(t *testing.T, data string) *Conn {
	t.Helper()
	c := fed(t, data)
	takes(t, c)
	return c
}

func feeds(t *testing.T, c *Conn, data string, want int) {
	t.Helper()
	if n := c.Feed(data); n != want {
		t.Fatalf("of %.100q %d bytes are taken, not %d", data, n, want)
	}
}

func takes(t *testing.T, c *Conn) api.Request {
	t.Helper()
	r, is := c.Take()
	if !is {
		t.Fatal("no request is ready")
	}
	return r
}

func takesNone(t *testing.T, c *Conn) {
	t.Helper()
	if r, is := c.Take(); is || !reflect.DeepEqual(r, api.Request{}) {
		t.Errorf("a request: %+v, %v", r, is)
	}
}

func replies(t *testing.T, c *Conn, r api.Response, want api.Errno) {
	t.Helper()
	if err := c.Reply(r); err != want {
		t.Errorf("Reply: %d, not %d", int(err), int(want))
	}
}

// writes wants these pieces, and none behind them.
func writes(t *testing.T, c *Conn, want ...string) {
	t.Helper()
	for _, w := range want {
		if !c.Wants() || c.Done() {
			t.Errorf("ahead of %.100q: Wants %v, Done %v", w, c.Wants(), c.Done())
		}
		if got := c.Write(); got != w {
			t.Errorf("%.100q goes out, not %.100q", got, w)
		}
	}
	if got := c.Write(); got != "" || c.Wants() {
		t.Errorf("%.100q goes out behind all", got)
	}
}

func isDone(t *testing.T, c *Conn, want bool) {
	t.Helper()
	if c.Done() != want {
		t.Errorf("Done: %v", !want)
	}
}

func holds(t *testing.T, c *Conn, want int) {
	t.Helper()
	if got := c.Held(); got != want {
		t.Errorf("Held: %d, not %d", got, want)
	}
}

// closed wants one that reads nothing more.
func closed(t *testing.T, c *Conn) {
	t.Helper()
	feeds(t, c, get(), 0)
	takesNone(t, c)
	replies(t, c, answer, api.ErrArg)
}

// The chapter's examples

func TestExamples(t *testing.T) {
	c := connOf(t)
	feeds(t, c, get()+"GET /b", len(get()))
	want := api.Request{Method: "GET", Scheme: "http", Authority: "h", Path: "/"}
	if r := takes(t, c); !reflect.DeepEqual(r, want) {
		t.Errorf("%+v", r)
	}
	takesNone(t, c)
	feeds(t, c, "GET /b", 0)
	replies(t, c, answer, api.OK)
	writes(t, c, answerHead, "ab")
	isDone(t, c, false)
	second := head("GET /b HTTP/1.1", host, "Connection: close")
	feeds(t, c, second, len(second))
	if r := takes(t, c); r.Path != "/b" {
		t.Errorf("%+v", r)
	}
	replies(t, c, empty, api.OK)
	writes(t, c, head("HTTP/1.1 204 No Content", "connection: close"))
	isDone(t, c, true)

	c = fed(t, post("2", "Expect: 100-continue"))
	takesNone(t, c)
	writes(t, c, "HTTP/1.1 100 Continue\r\n\r\n")
	feeds(t, c, "ab", 2)
	if r := takes(t, c); r.Method != "POST" || r.Path != "/" || r.Body != "ab" {
		t.Errorf("%+v", r)
	}

	c = fed(t, "X")
	c.Late()
	writes(t, c, h1write.Bare(408))
	isDone(t, c, true)
	for _, do := range []func(*Conn){(*Conn).Late, (*Conn).Stop} {
		c = connOf(t)
		isDone(t, c, false)
		do(c)
		isDone(t, c, true)
	}
}

// P23.1

func TestNew(t *testing.T) {
	for _, l := range []api.Limits{
		{}, {List: 1}, {List: 0, Body: 1}, {List: -1, Body: 1}, {List: 1, Body: -1}, {List: 1, Body: 1}, {Body: 1},
		{List: math.MinInt, Body: math.MinInt}, {List: math.MaxInt, Body: math.MaxInt}, {List: 300, Body: 10, Conns: -1, Idle: -5},
	} {
		_, want := h1read.New(l)
		c, err := New(l)
		if err != want || (c == nil) != (want != api.OK) {
			t.Errorf("%+v: %v, %d", l, c, int(err))
		}
		if c != nil && (c.Wants() || c.Done() || c.Held() != 0 || c.Write() != "") {
			t.Errorf("%+v: not new", l)
		}
	}
	c := connOf(t)
	takesNone(t, c)
	replies(t, c, answer, api.ErrArg)
	feeds(t, c, "", 0)
	isDone(t, c, false)
}

// The limits are those that New was given.
func TestLimits(t *testing.T) {
	for _, l := range []api.Limits{{List: 300, Body: 2}, {List: 300, Body: 3}, {List: 60, Body: 2}, {List: 90, Body: 2}} {
		c, _ := New(l)
		c.Feed(post("3"))
		want := ""
		switch {
		case l.List == 60:
			want = h1write.Bare(431)
		case l.Body == 2:
			want = h1write.Bare(413)
		}
		if got := c.Write(); got != want {
			t.Errorf("%+v: %q", l, got)
		}
	}
}

// P23.2

func TestWhole(t *testing.T) {
	c := fed(t, head("PUT http://x/a?b HTTP/1.1", host, "A: 1", "content-length: 3", "a:2", "Connection: a, c", "C: 3")+"\r\n\x00")
	want := api.Request{Method: "PUT", Scheme: "http", Authority: "x", Path: "/a?b", Fields: of("content-length", "3"), Body: "\r\n\x00"}
	if r := takes(t, c); !reflect.DeepEqual(r, want) {
		t.Errorf("%+v", r)
	}
	chunked := head("POST /c HTTP/1.1", host, "Transfer-Encoding: chunked", "x: y") + lines("2;x", "ab", "1", "c", "0", "T: v", "t: w", "")
	c = fed(t, chunked)
	want = api.Request{Method: "POST", Scheme: "http", Authority: "h", Path: "/c", Fields: of("x", "y"), Body: "abc", Trailers: of("t", "v", "t", "w")}
	if r := takes(t, c); !reflect.DeepEqual(r, want) {
		t.Errorf("%+v", r)
	}
	replies(t, c, answer, api.OK)
	writes(t, c, answerHead, "ab")
	// Nothing of one request comes to the next one.
	feeds(t, c, get("z: 1"), len(get("z: 1")))
	want = api.Request{Method: "GET", Scheme: "http", Authority: "h", Path: "/", Fields: of("z", "1")}
	if r := takes(t, c); !reflect.DeepEqual(r, want) {
		t.Errorf("%+v", r)
	}
}

// A body with a length is read wholly with its last byte, however it comes in.
func TestBodyEnds(t *testing.T) {
	all := post("3") + "abc"
	for cut := range len(all) + 1 {
		c := fed(t, all[:cut])
		if cut < len(all) {
			takesNone(t, c)
		}
		feeds(t, c, all[cut:], len(all)-cut)
		if r := takes(t, c); r.Body != "abc" {
			t.Errorf("cut at %d: %+v", cut, r)
		}
	}
	c := fed(t, post("0"))
	if r := takes(t, c); r.Body != "" {
		t.Errorf("%+v", r)
	}
}

// What is behind a request waits until its answer went out.
func TestOneByOne(t *testing.T) {
	for _, one := range []string{get(), post("2") + "ab", head("P / HTTP/1.1", host, "transfer-encoding: chunked") + lines("0", ""), "\r\n\r\n" + get()} {
		c := connOf(t)
		feeds(t, c, one+get(), len(one))
		feeds(t, c, get(), 0)
		feeds(t, c, "", 0)
		takes(t, c)
		feeds(t, c, get(), 0)
		replies(t, c, answer, api.OK)
		feeds(t, c, get(), 0)
		c.Write()
		feeds(t, c, get(), 0)
		feeds(t, c, "\r\n", 0)
		takesNone(t, c)
		writes(t, c, "ab")
		feeds(t, c, get(), len(get()))
		takes(t, c)
	}
}

// A body is read while the word to go on waits, and the answer goes out behind it.
func TestGoOn(t *testing.T) {
	both := post("2", "expect: 100-Continue") + "ab"
	for cut := len(both) - 2; cut <= len(both); cut++ {
		c := fed(t, both[:cut])
		feeds(t, c, both[cut:]+get(), len(both)-cut)
		takes(t, c)
		replies(t, c, answer, api.OK)
		feeds(t, c, get(), 0)
		writes(t, c, h1write.Continue(), answerHead, "ab")
		feeds(t, c, get(), len(get()))
	}
	for _, data := range []string{
		get("Expect: 100-continue"), post("0", "Expect: 100-continue"), old("POST", "Content-Length: 2", "Expect: 100-continue"),
		post("2"), post("2", "Expect: 100-continue")[:68],
	} {
		writes(t, fed(t, data))
	}
	c := fed(t, head("POST / HTTP/1.1", host, "Transfer-Encoding: chunked", "Expect: 100-continue"))
	writes(t, c, h1write.Continue())
	feeds(t, c, lines("0", ""), 5)
	takes(t, c)
}

func TestBroken(t *testing.T) {
	for _, b := range []struct {
		data   string
		n      int // how many bytes are taken
		status int
	}{
		{"X\r\n", 3, 400}, {"GET  / HTTP/1.1\r\n" + host, 17, 400}, {"\nGET", 1, 400}, {"\rGET", 2, 400},
		{"GET / HTTP/2.0\r\nx", 16, 505}, {"GET /" + strings.Repeat("x", 300), 301, 414},
		{get("x: " + strings.Repeat("x", 250)), 16 + 9 + 255, 431}, {post("11") + "x", len(post("11")), 413}, {get("Expect: x"), len(get("Expect: x")), 417},
		{post("2", "Transfer-Encoding: chunked"), len(post("2", "Transfer-Encoding: chunked")), 400},
		{head("P / HTTP/1.1", host, "Transfer-Encoding: gzip"), 50, 501},
		{head("P / HTTP/1.1", host, "Transfer-Encoding: chunked") + "2\r\nabc\r\n", 53 + 6, 400},
		{head("P / HTTP/1.1", host, "Transfer-Encoding: chunked") + "0\r\nhost: x\r\n\r\n", 53 + 14, 400},
	} {
		c := connOf(t)
		feeds(t, c, b.data, b.n)
		feeds(t, c, b.data[b.n:], 0)
		closed(t, c)
		holds(t, c, len(h1write.Bare(b.status)))
		c.Late()
		c.Stop()
		c.End()
		writes(t, c, h1write.Bare(b.status))
		isDone(t, c, true)
		holds(t, c, 0)
		closed(t, c)
	}
	// Behind what waits already, and behind another request.
	c := fed(t, head("P / HTTP/1.1", host, "Transfer-Encoding: chunked", "Expect: 100-continue"))
	feeds(t, c, "x\r\n0", 3)
	writes(t, c, h1write.Continue(), h1write.Bare(400))
	isDone(t, c, true)
	c = taken(t, get())
	replies(t, c, answer, api.OK)
	writes(t, c, answerHead, "ab")
	feeds(t, c, "\n", 1)
	writes(t, c, h1write.Bare(400))
	isDone(t, c, true)
}

// P23.3

func TestTake(t *testing.T) {
	c := fed(t, post("2")+"a")
	takesNone(t, c)
	replies(t, c, answer, api.ErrArg)
	feeds(t, c, "b", 1)
	replies(t, c, answer, api.ErrArg)
	takes(t, c)
	takesNone(t, c)
	replies(t, c, answer, api.OK)
	takesNone(t, c)
	replies(t, c, answer, api.ErrArg)
	writes(t, c, answerHead, "ab")
	takesNone(t, c)
	replies(t, c, answer, api.ErrArg)
}

// A request that was taken is its taker's alone.
func TestTakeShares(t *testing.T) {
	c := fed(t, head("POST / HTTP/1.1", host, "x: 1", "transfer-encoding: chunked")+lines("0", "t: 1", ""))
	r := takes(t, c)
	size := c.Held()
	for _, list := range [][]api.Field{r.Fields, r.Trailers} {
		for i := range list[:cap(list)] {
			list[:cap(list)][i] = api.Field{Name: "spoiled", Value: "spoiled"}
		}
	}
	holds(t, c, size)
	replies(t, c, answer, api.OK)
	writes(t, c, answerHead, "ab")
	data := head("POST / HTTP/1.1", host, "x: 1", "transfer-encoding: chunked") + lines("0", "t: 1", "")
	feeds(t, c, data, len(data))
	if r := takes(t, c); !slices.Equal(r.Fields, of("x", "1")) || !slices.Equal(r.Trailers, of("t", "1")) {
		t.Errorf("%+v", r)
	}
}

// What is fed is kept as it was, whatever else is done with the memory it stood in.
func TestFeedKeepsCopies(t *testing.T) {
	great := strings.Repeat("x", 1<<20)
	c := fed(t, post("2"))
	feeds(t, c, "ab"+great, 2)
	if len(c.asked.body) != 2 || cap(c.asked.body) > 64 {
		t.Error("the body is no copy", cap(c.asked.body))
	}
	takes(t, c)
	if c.asked.body != nil || !reflect.DeepEqual(c.asked.request, api.Request{Method: "POST"}) {
		t.Errorf("kept behind Take: %+v", c.asked)
	}
}

// P23.4

func TestReplyForms(t *testing.T) {
	open := api.Response{Status: 200, Fields: of("x", "1"), Body: "ab", Trailers: of("t", "v")}
	closes := "Connection: Close"
	for i, c := range []struct {
		data string
		r    api.Response
		done bool
		want []string
	}{
		{get(), answer, false, []string{answerHead, "ab"}},
		{get(closes), answer, true, []string{lastHead, "ab"}},
		{get(stays), answer, false, []string{answerHead, "ab"}},
		{get(), open, false, []string{head("HTTP/1.1 200 OK", "x: 1", "transfer-encoding: chunked"), lines("2", "ab"), head("0", "t: v")}},
		{get(closes), open, true, []string{head("HTTP/1.1 200 OK", "x: 1", "transfer-encoding: chunked", "connection: close"), lines("2", "ab"), head("0", "t: v")}},
		{head("HEAD / HTTP/1.1", host), answer, false, []string{answerHead}},
		{head("HEAD / HTTP/1.1", host, closes), answer, true, []string{lastHead}},
		{head("HEAD / HTTP/1.1", host), open, false, []string{head("HTTP/1.1 200 OK", "x: 1")}},
		{head("head / HTTP/1.1", host), answer, false, []string{answerHead, "ab"}},
		{head("HEADS / HTTP/1.1", host), answer, false, []string{answerHead, "ab"}},
		{old("GET"), answer, true, []string{lastHead, "ab"}},
		{old("GET", stays), answer, false, []string{keptHead, "ab"}},
		{old("GET", stays), open, true, []string{head("HTTP/1.1 200 OK", "x: 1", "connection: close"), "ab"}},
		{old("GET", stays), api.Response{Status: 200}, true, []string{head("HTTP/1.1 200 OK", "connection: close")}},
		{old("GET"), open, true, []string{head("HTTP/1.1 200 OK", "x: 1", "connection: close"), "ab"}},
		{old("HEAD", stays), open, false, []string{head("HTTP/1.1 200 OK", "x: 1", "connection: keep-alive")}},
		{old("HEAD"), open, true, []string{head("HTTP/1.1 200 OK", "x: 1", "connection: close")}},
		{old("HEAD", stays), answer, false, []string{keptHead}},
		{old("GET", stays), empty, false, []string{head("HTTP/1.1 204 No Content", "connection: keep-alive")}},
		{old("GET", stays), api.Response{Status: 304}, false, []string{head("HTTP/1.1 304 Not Modified", "connection: keep-alive")}},
		{old("GET", stays), api.Response{Status: 199}, false, []string{head("HTTP/1.1 199 Status", "connection: keep-alive")}},
		{old("GET", stays), api.Response{Status: 99}, true, []string{head("HTTP/1.1 500 Internal Server Error", "connection: close")}},
		{old("GET", stays), api.Response{Status: 99, Fields: of("content-length", "0")}, false, []string{head("HTTP/1.1 500 Internal Server Error", "content-length: 0", "connection: keep-alive")}},
		{old("GET", stays, "content-length: 1") + "x", answer, false, []string{keptHead, "ab"}},
		{old("GET", stays, "connection: close"), answer, true, []string{lastHead, "ab"}},
		{get(), empty, false, []string{head("HTTP/1.1 204 No Content")}},
		{get(), api.Response{}, false, []string{head("HTTP/1.1 500 Internal Server Error", "transfer-encoding: chunked"), head("0")}},
	} {
		x := taken(t, c.data)
		replies(t, x, c.r, api.OK)
		replies(t, x, c.r, api.ErrArg)
		writes(t, x, c.want...)
		isDone(t, x, c.done)
		if want := map[bool]int{true: 0, false: len(get())}[c.done]; x.Feed(get()) != want {
			t.Errorf("%d: closes, or does not", i)
		}
	}
}

// A request's own last word is for its answer alone.
func TestOldThenNew(t *testing.T) {
	c := taken(t, old("GET", stays))
	replies(t, c, answer, api.OK)
	writes(t, c, keptHead, "ab")
	feeds(t, c, get(), len(get()))
	takes(t, c)
	replies(t, c, api.Response{Status: 200, Body: "x"}, api.OK)
	writes(t, c, head("HTTP/1.1 200 OK", "transfer-encoding: chunked"), lines("1", "x"), head("0"))
	isDone(t, c, false)
	feeds(t, c, get(), len(get()))
}

// An answer that can't be written is 500, and the last.
func TestReplyFails(t *testing.T) {
	for _, r := range []api.Response{
		{Status: 200, Fields: of("x", "a\rb")}, {Status: 200, Trailers: of("", "v")}, {Status: 204, Fields: of("connection", "\n")},
		{Status: 200, Fields: of("content-length", "3"), Body: "ab"}, {Status: 204, Fields: of("content-length", "x")},
	} {
		for _, data := range []string{get(), get("Connection: close"), old("GET", stays)} {
			c := taken(t, data)
			replies(t, c, r, api.OK)
			holds(t, c, len(h1write.Bare(500)))
			closed(t, c)
			writes(t, c, h1write.Bare(500))
			isDone(t, c, true)
		}
	}
	c := fed(t, post("1", "Expect: 100-continue")+"a")
	takes(t, c)
	replies(t, c, api.Response{Fields: of("", "")}, api.OK)
	writes(t, c, h1write.Continue(), h1write.Bare(500))
	isDone(t, c, true)
}

// A response that is handed in is read, no more.
func TestReplyShares(t *testing.T) {
	whole := of("B", "1", "content-length", "2", "spare", "room")
	ahead := slices.Clone(whole)
	r := api.Response{Status: 200, Fields: whole[:2], Body: "ab", Trailers: whole[:1]}
	c := taken(t, get())
	replies(t, c, r, api.OK)
	if !slices.Equal(whole, ahead) {
		t.Errorf("%+v", whole)
	}
	clear(whole)
	writes(t, c, head("HTTP/1.1 200 OK", "b: 1", "content-length: 2"), "ab")
}

// P23.5

// A moment is one at which a connection may be told to end.
type moment struct {
	name             string
	at               func(t *testing.T) *Conn
	end, stop, late  bool // whether it closes then
	waits, lateWaits []string
}

// moments are all that differ.
func moments() []moment {
	is := func(data string) func(t *testing.T) *Conn {
		return func(t *testing.T) *Conn { return fed(t, data) }
	}
	wait := post("2", "Expect: 100-continue")
	timeout := h1write.Bare(408)
	return []moment{
		{"new", is(""), true, true, true, nil, nil},
		{"behind empty lines", is("\r\n\r\n"), true, true, true, nil, nil},
		{"within an empty line", is("\r"), true, false, true, nil, []string{timeout}},
		{"within a line", is("X"), true, false, true, nil, []string{timeout}},
		{"within a head", is("GET / HTTP/1.1\r\n"), true, false, true, nil, []string{timeout}},
		{"ahead of a body", is(post("2")), true, false, true, nil, []string{timeout}},
		{"within a body", is(post("2") + "a"), true, false, true, nil, []string{timeout}},
		{"within a body that is waited for", is(wait + "a"), true, false, true, []string{h1write.Continue()}, []string{h1write.Continue(), timeout}},
		{"within trailers", is(head("P / HTTP/1.1", host, "Transfer-Encoding: chunked") + "0\r\nt: "), true, false, true, nil, []string{timeout}},
		{"ready", is(get()), false, false, false, nil, nil},
		{"ready behind a body", is(wait + "ab"), false, false, false, []string{h1write.Continue()}, []string{h1write.Continue()}},
		{"under way", func(t *testing.T) *Conn { return taken(t, get()) }, false, false, false, nil, nil},
		{"answered", func(t *testing.T) *Conn {
			c := taken(t, get())
			replies(t, c, answer, api.OK)
			return c
		}, true, true, true, []string{answerHead, "ab"}, []string{answerHead, "ab"}},
		{"within an answer", func(t *testing.T) *Conn {
			c := taken(t, get())
			replies(t, c, answer, api.OK)
			c.Write()
			return c
		}, true, true, true, []string{"ab"}, []string{"ab"}},
		{"between two", func(t *testing.T) *Conn {
			c := taken(t, get())
			replies(t, c, answer, api.OK)
			writes(t, c, answerHead, "ab")
			return c
		}, true, true, true, nil, nil},
		{"broken", is("\n"), true, true, true, []string{h1write.Bare(400)}, []string{h1write.Bare(400)}},
	}
}

func TestEndStopLate(t *testing.T) {
	for _, m := range moments() {
		for _, way := range []struct {
			name   string
			do     func(*Conn)
			closes bool
			waits  []string
		}{
			{"End", (*Conn).End, m.end, m.waits}, {"Stop", (*Conn).Stop, m.stop, m.waits}, {"Late", (*Conn).Late, m.late, m.lateWaits},
			{"End, again", func(c *Conn) { c.End(); c.End() }, m.end, m.waits},
			{"Stop, again", func(c *Conn) { c.Stop(); c.Stop() }, m.stop, m.waits},
			{"Late, again", func(c *Conn) { c.Late(); c.Late() }, m.late, m.lateWaits},
			{"Stop, then Late", func(c *Conn) { c.Stop(); c.Late() }, m.late, m.lateWaits},
			{"Late, then Stop", func(c *Conn) { c.Late(); c.Stop() }, m.late, m.lateWaits},
			{"Stop, then End", func(c *Conn) { c.Stop(); c.End() }, m.end, m.waits},
			{"End, then Late", func(c *Conn) { c.End(); c.Late() }, m.end, m.waits},
		} {
			c := m.at(t)
			way.do(c)
			if way.closes {
				closed(t, c)
				holds(t, c, len(strings.Join(way.waits, "")))
			}
			writes(t, c, way.waits...)
			if c.Done() != way.closes {
				t.Errorf("%s, %s: Done %v", m.name, way.name, c.Done())
			}
		}
	}
}

// Behind End and Stop an answer is the last one; behind Late it is as it was.
func TestLastAnswer(t *testing.T) {
	for i, do := range []func(*Conn){(*Conn).Late, (*Conn).End, (*Conn).Stop} {
		wantHead := []string{answerHead, lastHead, lastHead}[i]
		for _, data := range []string{get(), post("2") + "ab"} {
			c := fed(t, data)
			do(c)
			takes(t, c)
			replies(t, c, answer, api.OK)
			writes(t, c, wantHead, "ab")
			isDone(t, c, i > 0)
			c = taken(t, data)
			do(c)
			isDone(t, c, false)
			replies(t, c, answer, api.OK)
			writes(t, c, wantHead, "ab")
			isDone(t, c, i > 0)
		}
	}
	// One that has begun is read to its end, and answered.
	for cut := 1; cut < len(get()); cut++ {
		c := fed(t, get()[:cut])
		c.Stop()
		isDone(t, c, false)
		feeds(t, c, get()[cut:]+get(), len(get())-cut)
		isDone(t, c, false)
		takes(t, c)
		replies(t, c, answer, api.OK)
		writes(t, c, lastHead, "ab")
		isDone(t, c, true)
		closed(t, c)
	}
	// An empty line was no request.
	c := fed(t, "\r")
	c.Stop()
	feeds(t, c, "\n", 1)
	isDone(t, c, false)
	c.Stop()
	isDone(t, c, true)
}

// P23.6

func TestWaits(t *testing.T) {
	body := strings.Repeat("0123456789", 4000)
	c := taken(t, get())
	replies(t, c, api.Response{Status: 200, Fields: of("content-length", "40000"), Body: body}, api.OK)
	writes(t, c, head("HTTP/1.1 200 OK", "content-length: 40000"), body[:16384], body[16384:32768], body[32768:])
	if c.waits != nil {
		t.Error("kept behind all")
	}
	w := waits{"a", "b"}
	kept := w
	if w.next() != "a" || kept[0] != "" || w.next() != "b" || w != nil {
		t.Errorf("%q, %q", w, kept)
	}
}

// A nil connection does nothing; nor does one that New did not make read anything.
func TestNil(t *testing.T) {
	var none *Conn
	for _, c := range []*Conn{none, {}} {
		feeds(t, c, get(), 0)
		takesNone(t, c)
		writes(t, c)
		isDone(t, c, false)
		holds(t, c, 0)
	}
	replies(t, none, answer, api.ErrNil)
	replies(t, &Conn{}, answer, api.ErrArg)
	none.End()
	none.Stop()
	none.Late()
	isDone(t, none, false)
	for _, do := range []func(*Conn){(*Conn).Late, (*Conn).End, (*Conn).Stop} {
		c := &Conn{}
		do(c)
		isDone(t, c, true)
		writes(t, c)
	}
}

// P23.7

func TestHeld(t *testing.T) {
	c := connOf(t)
	step := func(data string, want int) {
		t.Helper()
		feeds(t, c, data, len(data))
		holds(t, c, want)
	}
	step("", 0)
	step("\r\n", 0)
	step("POST", 4)
	step(" http://x/a HTTP/1.1\r", 25)
	step("\n", 14)
	step("Host: h\r\nX: yz\r\n", 14+5+3)
	step("Transfer-Encoding: chunked\r\nExpect: 100-continue\r", 22+17+7+21)
	step("\n\r", 22+24+18+1)
	// The request, without its host and coding; and the word to go on.
	request := 4 + 4 + 1 + 2 + 3 + 18
	step("\n", request+25)
	step("3;x\r", request+25+4)
	step("\n", request+25)
	step("ab", request+25+2)
	writes(t, c, h1write.Continue())
	holds(t, c, request+2)
	step("c\r", request+3)
	step("\n0\r\n", request+3)
	step("T: vw", request+3+5)
	step("\r\n", request+3+3)
	step("\r", request+3+3+1)
	step("\n", request+3+3)
	takes(t, c)
	holds(t, c, request+6)
	replies(t, c, answer, api.OK)
	holds(t, c, len(answerHead)+2)
	c.Write()
	holds(t, c, 2)
	c.Write()
	holds(t, c, 0)
	step("GET", 3)
	c.End()
	holds(t, c, 0)
}

// However many requests there are, and however long what comes in, no more is held than the limits let be.
func TestHeldIsBounded(t *testing.T) {
	c := connOf(t)
	most := 3*300 + 257 + 300 + 10 + 4
	for range 1000 {
		data := post("10", "x: "+strings.Repeat("x", 60)) + "0123456789"
		for at := 0; at < len(data); {
			at += c.Feed(data[at:min(at+7, len(data))])
			if c.Held() > most {
				t.Fatal(c.Held())
			}
		}
		takes(t, c)
		replies(t, c, empty, api.OK)
		c.Write()
		holds(t, c, 0)
	}
	for _, data := range []string{strings.Repeat("\r\n", 100000), strings.Repeat("x", 100000), "GET / HTTP/1.1\r\n" + strings.Repeat("x: y\r\n", 100000)} {
		c = connOf(t)
		c.Feed(data)
		if c.Held() > most {
			t.Error(c.Held())
		}
	}
}

// R1: much at once, and much in small pieces.
func TestGreat(t *testing.T) {
	const n = 1 << 22
	c, _ := New(api.Limits{List: 300, Body: n})
	c.Feed(post("4194304"))
	for range n {
		c.Feed("x")
	}
	if r := takes(t, c); len(r.Body) != n {
		t.Error(len(r.Body))
	}
	body := strings.Repeat("y", n)
	replies(t, c, api.Response{Status: 200, Body: body}, api.OK)
	got := 0
	for c.Wants() {
		got += len(c.Write())
	}
	if want := len(head("HTTP/1.1 200 OK", "transfer-encoding: chunked")) + n + n/16384*8 + 5; got != want {
		t.Error(got, want)
	}
	isDone(t, c, false)
	c.Feed(post("4194304") + body)
	if r := takes(t, c); r.Body != strings.Repeat("y", n) {
		t.Error(len(r.Body))
	}
}
