package h1read

import (
	"fmt"
	"regexp"
	"slices"
	"strconv"
	"strings"
	"testing"

	"ostler/api"
	"ostler/msg"
)

// The plain reading of the chapter: all bytes at once, cut by looking ahead.

type reading struct {
	list, most int // limits
	data       string
	at         int // how many bytes are taken
	told       []string
	within     bool
	held       int
}

var (
	plainRequest = regexp.MustCompile("^([A-Za-z0-9!#$%&'*+.^_`|~-]+) ([^ ]+) ([^ ]*)$")
	plainName    = regexp.MustCompile("^[A-Za-z0-9!#$%&'*+.^_`|~-]+$")
	plainVersion = regexp.MustCompile(`^HTTP/[0-9]\.[0-9]$`)
	plainSize    = regexp.MustCompile(`^[0-9a-fA-F]{1,15}$`)
)

func readingOf(list, most int, data string) reading {
	m := reading{list: list, most: most, data: data}
	for m.request() {
	}
	return m
}

func (m *reading) tell(told string) { m.told = append(m.told, fmt.Sprintf("%d: %s", m.at, told)) }

// breaks says that what is broken is so behind so many bytes more.
func (m *reading) breaks(n, status int) bool {
	m.at += n
	m.tell(fmt.Sprintf("broken %d", status))
	m.within, m.held = false, 0
	return false
}

// line is the next line, if it is whole.
func (m *reading) line(most, status int) (string, bool) {
	rest := m.data[m.at:]
	end := strings.IndexAny(rest, "\r\n")
	switch {
	case end > most || end < 0 && len(rest) > most:
		return "", m.breaks(most+1, status)
	case end < 0 || end+1 == len(rest) && rest[end] == '\r':
		m.at = len(m.data)
		m.held += len(rest)
		return "", false
	case rest[end] == '\n':
		return "", m.breaks(end+1, 400)
	case rest[end+1] != '\n':
		return "", m.breaks(end+2, 400)
	}
	m.at += end + 2
	return rest[:end], true
}

// request reads a request, and says whether there may be another one.
func (m *reading) request() bool {
	m.within, m.held = false, 0
	line, whole := m.line(m.list, 414)
	switch {
	case !whole:
		m.within = m.held > 0
		return false
	case line == "":
		return true
	}
	parts := plainRequest.FindStringSubmatch(line)
	if parts == nil {
		return m.breaks(0, 400)
	}
	if version := parts[3]; version != "HTTP/1.0" && version != "HTTP/1.1" {
		if plainVersion.MatchString(version) {
			return m.breaks(0, 505)
		}
		return m.breaks(0, 400)
	}
	m.within = true
	m.held = len(parts[1]) + len(parts[2])
	fields, whole := m.fields()
	return whole && m.head(parts[1], parts[2], parts[3] == "HTTP/1.0", fields)
}

// fields reads field lines up to an empty line.
func (m *reading) fields() ([]api.Field, bool) {
	var list []api.Field
	ahead := m.held
	for {
		line, whole := m.line(m.list, 431)
		if !whole || line == "" {
			return list, whole
		}
		name, value, is := strings.Cut(line, ":")
		value = strings.Trim(value, " \t")
		for _, b := range []byte(value) {
			is = is && (b >= 0x20 || b == 9) && b != 0x7f
		}
		if !is || !plainName.MatchString(name) {
			return nil, m.breaks(0, 400)
		}
		list = append(list, api.Field{Name: strings.ToLower(name), Value: value})
		size := msg.Size(list)
		if size > m.list {
			return nil, m.breaks(0, 431)
		}
		m.held = ahead + size - 32*len(list)
	}
}

func valuesOf(list []api.Field, name string) []string {
	var values []string
	for _, f := range list {
		if f.Name == name {
			values = append(values, f.Value)
		}
	}
	return values
}

// words are the members of values in small letters; the tests write no quotes that hold a comma.
func words(values []string) []string {
	var all []string
	for _, v := range values {
		for _, w := range strings.Split(v, ",") {
			if w = strings.Trim(w, " \t"); w != "" {
				all = append(all, strings.ToLower(w))
			}
		}
	}
	return all
}

// flaw is what breaks a head that was read.
func (m *reading) flaw(old bool, list []api.Field) int {
	coding := valuesOf(list, "transfer-encoding")
	length, _, err := msg.Length(list)
	switch {
	case coding == nil:
	case old, valuesOf(list, "content-length") != nil, len(words(coding)) == 0:
		return 400
	case !slices.Equal(words(coding), []string{"chunked"}):
		return 501
	}
	switch {
	case err != api.OK:
		return 400
	case length > m.most:
		return 413
	}
	for _, v := range valuesOf(list, "expect") {
		if strings.ToLower(v) != "100-continue" {
			return 417
		}
	}
	return 0
}

func (m *reading) head(method, target string, old bool, list []api.Field) bool {
	if status := m.flaw(old, list); status != 0 {
		return m.breaks(0, status)
	}
	fields := list
	if old && valuesOf(list, "host") == nil {
		fields = slices.Concat(list, of("host", ""))
	}
	q, err := msg.One(method, target, fields)
	if err != api.OK {
		return m.breaks(0, 400)
	}
	length, _, _ := msg.Length(list)
	coding, said := valuesOf(list, "transfer-encoding") != nil, words(valuesOf(list, "connection"))
	p := api.Piece{Mark: api.HeadRead, Request: q, Old: old, Has: coding || length > 0}
	p.Wait = p.Has && valuesOf(list, "expect") != nil && !old
	p.Last = slices.Contains(said, "close") || old && !slices.Contains(said, "keep-alive")
	m.tell(tell(p))
	m.held = 0
	switch {
	case coding:
		return m.chunks("", 0)
	case length == 0:
		return true
	}
	body := m.data[m.at:min(m.at+length, len(m.data))]
	m.at += len(body)
	m.body(body)
	if len(body) == length {
		m.tell("all")
	}
	return len(body) == length
}

func (m *reading) body(body string) {
	if body != "" {
		m.told = append(m.told, fmt.Sprintf("body %q", body))
	}
}

// chunks reads those that stand behind a body, whose sizes together are so much.
func (m *reading) chunks(body string, size int) bool {
	m.held = 0
	line, whole := m.line(256, 400)
	digits, _, _ := strings.Cut(line, ";")
	n, _ := strconv.ParseInt(digits, 16, 64)
	switch {
	case !whole:
		m.bodyAhead(body)
		return false
	case !plainSize.MatchString(digits):
		m.body(body)
		return m.breaks(0, 400)
	case size+int(n) > m.most:
		m.body(body)
		return m.breaks(0, 413)
	case n == 0:
		m.body(body)
		return m.trailers()
	}
	rest := m.data[m.at:]
	if len(rest) <= int(n) {
		m.at = len(m.data)
		m.body(body + rest)
		return false
	}
	m.at += int(n)
	body += rest[:n]
	end := m.data[m.at:]
	switch {
	case end[0] != '\r':
		m.body(body)
		return m.breaks(1, 400)
	case len(end) == 1:
		m.at = len(m.data)
		m.body(body)
		return false
	case end[1] != '\n':
		m.body(body)
		return m.breaks(2, 400)
	}
	m.at += 2
	return m.chunks(body, size+int(n))
}

// bodyAhead tells a body ahead of what broke the line behind it, if that was told.
func (m *reading) bodyAhead(body string) {
	if last := len(m.told) - 1; body != "" && strings.Contains(m.told[last], ": broken") {
		m.told = slices.Insert(m.told, last, fmt.Sprintf("body %q", body))
		return
	}
	m.body(body)
}

func (m *reading) trailers() bool {
	list, whole := m.fields()
	switch {
	case !whole:
		return false
	case msg.Trailers(list) != api.OK:
		return m.breaks(0, 400)
	}
	m.tell(tell(api.Piece{Mark: api.AllRead, Fields: list}))
	return true
}

// portions reads bytes that come in portions, and tells the same; the pieces of one body are put together.
func portions(r *Reader, cut []string) []string {
	var told []string
	at, body := 0, ""
	tellBody := func() {
		if body != "" {
			told = append(told, fmt.Sprintf("body %q", body))
		}
		body = ""
	}
	for _, data := range cut {
		for {
			n, p := r.Read(data)
			taken := data[:n]
			at += n
			data = data[n:]
			if p.Mark == api.NeedMore {
				break
			}
			// A part of a body is all that was taken last, and nothing else is told with it.
			if p.Body != "" && strings.HasSuffix(taken, p.Body) && tell(p) == fmt.Sprintf("body %q", p.Body) {
				body += p.Body
				continue
			}
			tellBody()
			told = append(told, fmt.Sprintf("%d: %s", at, tell(p)))
			if p.Mark == api.Broken {
				return told
			}
		}
	}
	tellBody()
	return told
}

// cuts is a text cut at scattered places, here and there with nothing between two.
func cuts(next func(int) int, data string) []string {
	cut := []string{""}
	for data != "" {
		n := min(next(12), len(data))
		cut = append(cut, data[:n])
		data = data[n:]
	}
	return cut
}

// wantReading reads bytes whole, one by one, and in scattered portions.
func wantReading(t *testing.T, next func(int) int, list, most int, data string) reading {
	t.Helper()
	m := readingOf(list, most, data)
	for _, cut := range [][]string{{data}, strings.Split(data, ""), cuts(next, data)} {
		if data != "" && len(cut) == len(data) {
			cut = bytesOf(data)
		}
		r := readerOf(t, list, most)
		if told := portions(r, cut); !slices.Equal(told, m.told) {
			t.Fatalf("List %d, Body %d: of\n%q cut in %d is read\n%q, not\n%q", list, most, data, len(cut), told, m.told)
		}
		if r.Within() != m.within || r.Held() != m.held {
			t.Fatalf("List %d, Body %d: behind\n%q: %v, %d; not %v, %d", list, most, data, r.Within(), r.Held(), m.within, m.held)
		}
	}
	return m
}

func bytesOf(data string) []string {
	var all []string
	for i := range len(data) {
		all = append(all, data[i:i+1])
	}
	return all
}

// someRequests are of all that the chapter speaks of.
func someRequests() []string {
	return []string{
		lines("", get, host, ""),
		lines("GET / HTTP/1.0", "Connection: keep-alive", ""),
		lines("POST /a HTTP/1.1", host, "Content-Length: 3", "") + "abc",
		chunked() + lines("2;x=y", "ab", "1", "c", "0", "T: v", ""),
		lines("PUT http://x/ HTTP/1.1", "hOST:\th ", "Expect: 100-continue", "Transfer-Encoding: ,Chunked", "") + lines("00a;", "0123456789", "0", ""),
		lines("OPTIONS * HTTP/1.0", "content-length: 10", "expect:100-Continue", "") + "0123456789" + lines("", "", "G / HTTP/1.1", "HOST: h", "Connection: x, Close", ""),
	}
}

func TestEachPrefix(t *testing.T) {
	next := numbers(1)
	for _, data := range someRequests() {
		for i := range len(data) + 1 {
			wantReading(t, next, 200, 10, data[:i])
		}
	}
}

func TestEachByteChanged(t *testing.T) {
	next := numbers(2)
	bytes := "\x00\t\n\r !,-/0139:;=AGTacz~\x7f\x80\xff"
	for _, data := range someRequests() {
		for i := range len(data) {
			wantReading(t, next, 200, 10, data[:i]+data[i+1:])
			for _, b := range bytesOf(bytes) {
				wantReading(t, next, 200, 10, data[:i]+b+data[i+1:])
				wantReading(t, next, 200, 10, data[:i]+b+data[i:])
			}
		}
	}
}

func TestAllShortTexts(t *testing.T) {
	next := numbers(3)
	var fill func(ahead, data, bytes string, most int)
	fill = func(ahead, data, bytes string, most int) {
		wantReading(t, next, 200, 10, ahead+data)
		for _, b := range bytesOf(bytes) {
			if most > 0 {
				fill(ahead, data+b, bytes, most-1)
			}
		}
	}
	fill("", "", "G /\r\n", 5)
	fill(lines("GET / HTTP/1.0"), "", "x: \r\n", 5)
	fill(chunked(), "", "01;a\r\n", 5)
	fill(chunked()+lines("0"), "", "x:\r\n", 5)
	fill(chunked()+lines("2"), "", "a0\r\n", 6)
}

// scattered is a row of requests of scattered parts.
func scattered(next func(int) int) string {
	pick := func(texts ...string) string { return texts[next(len(texts))] }
	rare := func(much, rarely string) string {
		if next(20) == 0 {
			return rarely
		}
		return much
	}
	data := ""
	for range 1 + next(3) {
		data += pick("", "", "", "\r\n") + pick("GET", "POST", "HEAD", "OPTIONS") + rare(" ", "  ") + pick("/", "/a", "http://x", rare("/b", "*")) + " " + rare(pick("HTTP/1.1", "HTTP/1.1", "HTTP/1.0"), "HTTP/1.2") + "\r\n"
		if next(12) > 0 {
			data += pick(lines(host), lines("HOST:h"), lines("Host: i"))
		}
		for range next(4) {
			data += rare(pick("x: 1", "y:", "Connection: close", "Connection: Keep-Alive, x", "Expect: 100-continue", "accept: \t*"), pick("Expect: 1", "z", "te : x", "te: x", strings.Repeat("x", 300), "x:"+strings.Repeat("y", 150))) + "\r\n"
		}
		body := strings.Repeat(pick("a", "\r\n", "0"), next(7))
		switch next(4) {
		case 0:
			data += lines(fmt.Sprintf("Content-Length: %d", len(body)), "") + body
		case 1, 2:
			data += lines(rare("Transfer-Encoding: chunked", "Transfer-Encoding: gzip"), "")
			for range next(3) {
				if body != "" {
					data += lines(fmt.Sprintf("%x", len(body))+rare(";x", " "), body)
				}
			}
			data += lines(rare("0", pick("00", "0 ", "")))
			for range next(3) {
				data += lines(rare(pick("t: 1", "U:"), pick("host: h", "v", "w:"+strings.Repeat("w", 170))))
			}
			data += lines("")
		default:
			data += lines("")
		}
	}
	return data
}

func TestScatteredRequests(t *testing.T) {
	next := numbers(4)
	marks := map[string]int{}
	for range 30000 {
		data := scattered(next)
		if next(3) == 0 {
			i := next(len(data))
			data = data[:i] + []string{"", oneByte(next(256)), "\r", "\n"}[next(4)] + data[i+next(2):]
		}
		m := wantReading(t, next, 100+next(200), next(20), data[:len(data)-next(2)*next(len(data))])
		for _, told := range m.told {
			_, word, _ := strings.Cut(told, ": ")
			for _, w := range []string{"head", "all", "broken"} {
				if strings.HasPrefix(word, w) {
					marks[strings.TrimSpace(strings.TrimPrefix(word, "broken"))[:3]]++
				}
			}
		}
	}
	for _, w := range []string{"hea", "all", "400", "413", "417", "431", "501", "505"} {
		if marks[w] < 100 {
			t.Error("too few of", w, marks)
		}
	}
}
