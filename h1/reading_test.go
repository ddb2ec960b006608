package h1

import (
	"fmt"
	"reflect"
	"slices"
	"strings"
	"testing"

	"ostler/api"
	"ostler/h1read"
	"ostler/h1write"
	"ostler/msg"
)

// reading is the plain reading of the chapter's words: it reads byte by byte, and keeps all.
type reading struct {
	reader               *h1read.Reader
	request              *api.Request // that is being read, ready or under way
	ready, underWay      bool
	old, lastOf          bool
	closes, ended, stopd bool
	waits                []string
}

func readingOf(l api.Limits) *reading {
	reader, _ := h1read.New(l)
	return &reading{reader: reader}
}

func (m *reading) reads() bool {
	return !m.closes && !m.ready && !m.underWay && (len(m.waits) == 0 || m.reader.Within())
}

func (m *reading) feed(data string) int {
	taken := 0
	for m.reads() {
		// A body's end comes without a byte.
		_, piece := m.reader.Read("")
		if piece.Mark == api.NeedMore {
			if taken == len(data) {
				break
			}
			_, piece = m.reader.Read(data[taken : taken+1])
			taken++
		}
		m.read(piece)
	}
	return taken
}

func (m *reading) read(piece api.Piece) {
	switch piece.Mark {
	case api.HeadRead:
		m.request, m.old, m.lastOf = &piece.Request, piece.Old, piece.Last
		if piece.Wait {
			m.waits = append(m.waits, h1write.Continue())
		}
		m.ready = !piece.Has
	case api.BodyRead:
		m.request.Body += piece.Body
	case api.AllRead:
		m.request.Trailers = piece.Fields
		m.ready = true
	case api.Broken:
		m.waits = append(m.waits, h1write.Bare(piece.Status))
		m.request, m.closes = nil, true
	}
}

func (m *reading) take() (api.Request, bool) {
	if !m.ready {
		return api.Request{}, false
	}
	m.ready, m.underWay = false, true
	return *m.request, true
}

func (m *reading) reply(r api.Response) api.Errno {
	if !m.underWay {
		return api.ErrArg
	}
	last := m.lastOf || m.stopd || m.ended
	if _, said, _ := msg.Length(r.Fields); m.old && !said && !msg.Bare(m.request.Method, r.Status) {
		last = true
	}
	pieces, err := h1write.Pieces(r, m.old, m.request.Method == "HEAD", last)
	if err != api.OK {
		pieces, last = []string{h1write.Bare(500)}, true
	}
	m.waits = append(m.waits, pieces...)
	m.request, m.underWay = nil, false
	m.closes = m.closes || last
	return api.OK
}

func (m *reading) end() {
	m.ended = true
	if !m.ready && !m.underWay {
		m.request, m.closes = nil, true
	}
}

func (m *reading) stop() {
	m.stopd = true
	if !m.reader.Within() && !m.ready && !m.underWay {
		m.closes = true
	}
}

func (m *reading) late() {
	if m.closes || m.ready || m.underWay {
		return
	}
	if m.reader.Within() {
		m.waits = append(m.waits, h1write.Bare(408))
	}
	m.request, m.closes = nil, true
}

func (m *reading) write() string {
	if len(m.waits) == 0 {
		return ""
	}
	piece := m.waits[0]
	m.waits = m.waits[1:]
	return piece
}

func (m *reading) done() bool { return m.closes && len(m.waits) == 0 && !m.ready && !m.underWay }

func (m *reading) held() int {
	all := strings.Join(m.waits, "")
	if r := m.request; r != nil {
		all += r.Method + r.Scheme + r.Authority + r.Path + r.Body
		for _, f := range slices.Concat(r.Fields, r.Trailers) {
			all += f.Name + f.Value
		}
	}
	if m.closes {
		return len(all)
	}
	return len(all) + m.reader.Held()
}

// scattered is a row of requests of scattered parts.
func scattered(next func(int) int) string {
	pick := func(texts ...string) string { return texts[next(len(texts))] }
	rare := func(much, rarely string) string {
		if next(25) == 0 {
			return rarely
		}
		return much
	}
	data := ""
	for range 1 + next(5) {
		data += pick("", "", "", "\r\n") + pick("GET", "POST", "HEAD", "HEAD", "put") + rare(" ", "  ") + pick("/", "/a?b", "http://x") + " " + rare(pick("HTTP/1.1", "HTTP/1.1", "HTTP/1.0"), "HTTP/1.2") + "\r\n"
		data += lines(rare(host, "Host: i"))
		for range next(4) {
			data += rare(pick("x: 1", "Y:", "Connection: Keep-Alive", "Connection: Keep-Alive, x", "Expect: 100-continue"), pick("Expect: 1", "te : x", "Connection: close", strings.Repeat("x", 400))) + "\r\n"
		}
		body := strings.Repeat(pick("a", "\r\n", "0"), next(8))
		switch next(4) {
		case 0:
			data += lines(fmt.Sprintf("Content-Length: %d", len(body)), "") + body
		case 1, 2:
			data += lines("Transfer-Encoding: chunked", "")
			for range next(3) {
				if body != "" {
					data += lines(fmt.Sprintf("%x", len(body))+rare(";x", " "), body)
				}
			}
			data += lines("0")
			for range next(3) {
				data += lines(rare(pick("t: 1", "U:"), "host: h"))
			}
			data += lines("")
		default:
			data += lines("")
		}
	}
	if next(4) == 0 {
		i := next(len(data))
		data = data[:i] + pick("", "\r", "\n", "\x00", "z") + data[i+next(2):]
	}
	return data
}

// answers is a scattered response.
func answers(next func(int) int) api.Response {
	r := api.Response{Status: []int{200, 200, 404, 204, 304, 100, 0, 1000}[next(8)]}
	r.Body = strings.Repeat("b", []int{0, 1, 5, 16384, 40000}[next(5)])
	if next(3) > 0 {
		r.Fields = of("X-a", "1", "Connection", "x")
	}
	switch next(8) {
	case 0, 1, 2, 3:
		r.Fields = append(r.Fields, of("content-length", fmt.Sprint(len(r.Body)))...)
	case 4:
		r.Trailers = of("T", "v")
	case 5:
		r.Fields = append(r.Fields, of("content-length", []string{"x", "1", "00"}[next(3)])...)
	case 6:
		r.Trailers = of("T", []string{"v", "\n"}[next(2)])
	}
	return r
}

// both is a connection and the plain reading of it.
type both struct {
	t    *testing.T
	c    *Conn
	m    *reading
	rest string // that was not taken
	told []string

	replied int
}

// end says that one of both shall end, and how.
func (b *both) end(way int) {
	switch way {
	case 0:
		b.told = append(b.told, "End")
		b.c.End()
		b.m.end()
	case 1:
		b.told = append(b.told, "Stop")
		b.c.Stop()
		b.m.stop()
	default:
		b.told = append(b.told, "Late")
		b.c.Late()
		b.m.late()
	}
	b.compare()
}

// do does one thing with both, and wants them to be alike.
func (b *both) do(next func(int) int) {
	told := ""
	switch next(5) {
	case 0:
		told = "Take"
		r, is := b.c.Take()
		if want, wantIs := b.m.take(); is != wantIs || !alike(r, want) {
			b.t.Fatalf("%q: Take: %+v, %v, not %+v, %v", b.told, r, is, want, wantIs)
		}
	case 1:
		r := answers(next)
		told = fmt.Sprintf("Reply %d %v", r.Status, r.Fields)
		got, want := b.c.Reply(r), b.m.reply(r)
		if got != want {
			b.t.Fatalf("%q: Reply: %d, not %d", b.told, int(got), int(want))
		}
		if got == api.OK {
			b.replied++
		}
	case 2:
		told = "Write"
		if got, want := b.c.Write(), b.m.write(); got != want {
			b.t.Fatalf("%q: Write: %q, not %q", b.told, got, want)
		}
	default:
		data := b.rest[:min(len(b.rest), next(60))]
		told = fmt.Sprintf("Feed %q", data)
		n := b.c.Feed(data)
		if want := b.m.feed(data); n != want {
			b.t.Fatalf("%q: %s: %d, not %d", b.told, told, n, want)
		}
		b.rest = b.rest[n:]
	}
	b.told = append(b.told, told)
	b.compare()
}

func (b *both) compare() {
	if b.c.Wants() != (len(b.m.waits) > 0) || b.c.Done() != b.m.done() || b.c.Held() != b.m.held() {
		b.t.Fatalf("%q: Wants %v, Done %v, Held %d; not %v, %v, %d", b.told,
			b.c.Wants(), b.c.Done(), b.c.Held(), len(b.m.waits) > 0, b.m.done(), b.m.held())
	}
}

// alike tells whether two requests are the same, whichever of their empty lists are nil.
func alike(a, b api.Request) bool {
	if !slices.Equal(a.Fields, b.Fields) || !slices.Equal(a.Trailers, b.Trailers) {
		return false
	}
	a.Fields, a.Trailers, b.Fields, b.Trailers = nil, nil, nil, nil
	return reflect.DeepEqual(a, b)
}

func TestScatteredCalls(t *testing.T) {
	next := numbers(1)
	var many, open int
	for range 6000 {
		l := api.Limits{List: 150 + next(300), Body: 5 + next(20)}
		b := &both{t: t, m: readingOf(l), rest: scattered(next)}
		b.c, _ = New(l)
		for range 40 + next(150) {
			b.do(next)
			if next(200) == 0 {
				b.end(next(3))
			}
		}
		if b.replied > 1 {
			many++
		}
		if !b.m.closes {
			open++
		}
	}
	if many < 1000 || open < 500 || open > 5500 {
		t.Error("not scattered", many, open)
	}
}

// serve feeds portions, answers each request, and writes all; it is what was asked, and what went out.
func serve(l api.Limits, portions []string) ([]string, string, bool) {
	c, _ := New(l)
	var asked []string
	out, rest := "", ""
	for _, portion := range portions {
		rest += portion
		for {
			n := c.Feed(rest)
			rest = rest[n:]
			r, is := c.Take()
			if is {
				asked = append(asked, fmt.Sprintf("%q", r))
				c.Reply(api.Response{Status: 200 + len(r.Body), Fields: r.Fields, Body: r.Body, Trailers: r.Trailers})
			}
			for c.Wants() {
				out += c.Write()
			}
			if n == 0 && !is {
				break
			}
		}
	}
	return asked, out, c.Done()
}

// P23.8
func TestPortions(t *testing.T) {
	next := numbers(2)
	rows := 0
	for range 4000 {
		l := api.Limits{List: 150 + next(300), Body: 5 + next(20)}
		data := scattered(next)
		asked, out, done := serve(l, []string{data})
		if len(asked) > 1 {
			rows++
		}
		var cut []string
		for rest := data; rest != ""; {
			n := min(next(40), len(rest))
			cut, rest = append(cut, rest[:n]), rest[n:]
		}
		for _, portions := range [][]string{cut, singles(data)} {
			a, o, d := serve(l, portions)
			if !slices.Equal(a, asked) || o != out || d != done {
				t.Fatalf("%q in %d: %q, %q, %v; not %q, %q, %v", data, len(portions), a, o, d, asked, out, done)
			}
		}
	}
	if rows < 500 {
		t.Error("too few rows", rows)
	}
}

// singles are the bytes one by one.
func singles(data string) []string {
	var all []string
	for i := range len(data) {
		all = append(all, data[i:i+1])
	}
	return all
}
