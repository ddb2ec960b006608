package h1read

import (
	"strings"

	"ostler/api"
	"ostler/msg"
	"ostler/text"
)

// head is what the request line of a head says that is being read.
type head struct {
	method string
	target string
	old    bool
}

func (r *Reader) readStart(data string) (int, api.Piece) {
	return r.readLine(data, r.list, 414, r.useStart)
}

func (r *Reader) readField(data string) (int, api.Piece) {
	return r.readLine(data, r.list, 431, r.useField)
}

// useStart takes a request line, or passes over an empty line ahead of it.
func (r *Reader) useStart(line string) api.Piece {
	if line == "" {
		return api.Piece{}
	}
	// A fourth part would begin at a third space.
	parts := strings.SplitN(line, " ", 4)
	if len(parts) != 3 || parts[1] == "" || !text.Token(parts[0]) {
		return r.breaks(400)
	}
	version := parts[2]
	switch {
	case version == "HTTP/1.1" || version == "HTTP/1.0":
		r.head = head{parts[0], parts[1], version == "HTTP/1.0"}
	case isVersion(version):
		return r.breaks(505)
	default:
		return r.breaks(400)
	}
	r.begun = true
	r.next = r.readField
	return api.Piece{}
}

// isVersion tells whether a text says a version, whichever it is.
func isVersion(s string) bool {
	return len(s) == 8 && s[:5] == "HTTP/" && isDigit(s[5]) && s[6] == '.' && isDigit(s[7])
}

func isDigit(b byte) bool { return '0' <= b && b <= '9' }

// useField takes a field line of a head, or the empty line behind it.
func (r *Reader) useField(line string) api.Piece {
	if line != "" {
		return r.addField(line)
	}
	h, list := r.head, r.fields.list
	length, status := lengthOf(h, list, r.body)
	if status != 0 {
		return r.breaks(status)
	}
	request, err := msg.One(h.method, h.target, withHost(h, list))
	if err != api.OK {
		return r.breaks(400)
	}
	chunked := has(list, "transfer-encoding")
	r.startBody(length, chunked)
	follows := chunked || length > 0
	return api.Piece{
		Mark:    api.HeadRead,
		Request: request,
		Wait:    follows && has(list, "expect") && !h.old,
		Last:    isLast(h, list),
		Old:     h.old,
		Has:     follows,
	}
}

// lengthOf is the length that a head says of the body; or the status that it gets, if its body or what it expects may not be.
func lengthOf(h head, list []api.Field, most int) (length, status int) {
	if status := checkCoding(h, list); status != 0 {
		return 0, status
	}
	length, _, err := msg.Length(list)
	switch {
	case err != api.OK:
		return 0, 400
	case length > most:
		return 0, 413
	case expectsMore(list):
		return 0, 417
	}
	return length, 0
}

// checkCoding is the status that a head gets because of its transfer-encoding, or 0.
func checkCoding(h head, list []api.Field) int {
	if !has(list, "transfer-encoding") {
		return 0
	}
	codings := members(list, "transfer-encoding")
	switch {
	case h.old || has(list, "content-length") || len(codings) == 0:
		return 400
	case len(codings) > 1 || !text.Same(codings[0], "chunked"):
		return 501
	}
	return 0
}

// expectsMore tells whether a head expects anything but to be told to go on.
func expectsMore(list []api.Field) bool {
	for _, f := range list {
		if f.Name == "expect" && !text.Same(f.Value, "100-continue") {
			return true
		}
	}
	return false
}

// withHost is a head's fields with a host: the old version knows of none.
func withHost(h head, list []api.Field) []api.Field {
	if h.old && !has(list, "host") {
		return append(list, api.Field{Name: "host"})
	}
	return list
}

// isLast tells whether the connection ends behind a request.
func isLast(h head, list []api.Field) bool {
	said := members(list, "connection")
	return holds(said, "close") || h.old && !holds(said, "keep-alive")
}
