package h1

import (
	"bufio"
	"context"
	"io"
	"net"
	"net/http"
	"slices"
	"strings"
	"testing"

	"ostler/api"
)

// T2: what goes out is a row of whole responses, each of which the library's reader finds.
func TestRowOfResponses(t *testing.T) {
	next := numbers(3)
	read := 0
	for range 1500 {
		c, _ := New(api.Limits{List: 400, Body: 20})
		rest, out := scattered(next), ""
		var methods []string
		for range 12 {
			rest = rest[c.Feed(rest):]
			if r, is := c.Take(); is {
				methods = append(methods, r.Method)
				a := answers(next)
				a.Status = max(a.Status, 200)
				c.Reply(a)
			}
			for c.Wants() {
				out += c.Write()
			}
		}
		read += readRow(t, out, methods)
	}
	if read < 1500 {
		t.Error("too few responses", read)
	}
}

// readRow reads responses to requests of these methods, and perhaps one more to what was broken.
func readRow(t *testing.T, out string, methods []string) int {
	t.Helper()
	row := bufio.NewReader(strings.NewReader(out))
	read := 0
	for {
		if _, err := row.Peek(1); err != nil {
			break
		}
		method := "GET"
		if read < len(methods) {
			method = methods[read]
		}
		r, err := http.ReadResponse(row, &http.Request{Method: method})
		if err != nil {
			t.Fatalf("%.300q: %v", out, err)
		}
		if r.StatusCode == http.StatusContinue {
			continue
		}
		if _, err := io.ReadAll(r.Body); err != nil {
			t.Fatalf("%.300q: %v", out, err)
		}
		read++
	}
	if read < len(methods) || read > len(methods)+1 {
		t.Fatalf("%d responses to %q: %.300q", read, methods, out)
	}
	return read
}

// echo serves one connection: each request is answered with its body and its trailers.
func echo(end net.Conn) {
	defer end.Close()
	c, _ := New(api.Limits{List: 4096, Body: 1 << 20})
	rest, room := "", make([]byte, 1000)
	for !c.Done() {
		n := c.Feed(rest)
		rest = rest[n:]
		r, is := c.Take()
		if is {
			c.Reply(api.Response{Status: 200, Fields: of("x-method", r.Method, "x-path", r.Path), Body: r.Body, Trailers: r.Trailers})
		}
		for c.Wants() {
			io.WriteString(end, c.Write())
		}
		if n > 0 || is {
			continue
		}
		n, err := end.Read(room)
		if err != nil {
			c.End()
		}
		rest += string(room[:n])
	}
}

// The library's client asks again and again on one connection.
func TestLibraryClient(t *testing.T) {
	dialled := 0
	client := &http.Client{Transport: &http.Transport{MaxConnsPerHost: 1, DialContext: func(context.Context, string, string) (net.Conn, error) {
		ours, theirs := net.Pipe()
		dialled++
		go echo(ours)
		return theirs, nil
	}}}
	for _, method := range []string{"GET", "POST", "HEAD", "DELETE"} {
		for _, size := range []int{0, 1, 5000, 100000} {
			for _, way := range []string{"length", "chunked", "wait"} {
				body := strings.Repeat("x", size)
				if method == "GET" || method == "HEAD" {
					body = ""
				}
				asks(t, client, method, body, way)
			}
		}
	}
	if dialled != 1 {
		t.Error(dialled, "connections")
	}
	client.CloseIdleConnections()
}

func asks(t *testing.T, client *http.Client, method, body, way string) {
	t.Helper()
	var from io.Reader = strings.NewReader(body)
	if way == "chunked" {
		from = io.MultiReader(from) // a reader that does not tell its length
	}
	q, _ := http.NewRequest(method, "http://h/a?b", from)
	switch way {
	case "chunked":
		q.Trailer = http.Header{"T": {"v"}}
	case "wait":
		q.Header.Set("Expect", "100-continue")
	}
	r, err := client.Do(q)
	if err != nil {
		t.Fatal(method, way, err)
	}
	got, err := io.ReadAll(r.Body)
	r.Body.Close()
	want := body
	if method == "HEAD" {
		want = ""
	}
	if err != nil || string(got) != want || r.StatusCode != 200 || r.Header.Get("X-Method") != method || r.Header.Get("X-Path") != "/a?b" {
		t.Errorf("%s %s: %d %v, %d bytes, %v", method, way, r.StatusCode, r.Header, len(got), err)
	}
	if way == "chunked" && body != "" && !slices.Equal(r.Trailer["T"], []string{"v"}) {
		t.Errorf("%s: %v", method, r.Trailer)
	}
}
