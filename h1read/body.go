package h1read

import (
	"strings"

	"ostler/api"
	"ostler/msg"
	"ostler/text"
)

const (
	sizeLine   = 256 // bytes of the line of a chunk's size
	sizeDigits = 15  // of that size
)

// startBody goes on to what stands behind a head.
func (r *Reader) startBody(length int, chunked bool) {
	r.forget()
	r.begun = true
	switch {
	case chunked:
		r.room = r.body
		r.next = r.readSize
	case length > 0:
		r.left = length
		r.next = r.readBody
	default:
		r.finish()
	}
}

// readPart takes bytes of what is left, and says what is read behind it.
func (r *Reader) readPart(data string, behind func(data string) (int, api.Piece)) (int, api.Piece) {
	n := min(r.left, len(data))
	if n == 0 {
		return 0, api.Piece{}
	}
	r.left -= n
	if r.left == 0 {
		r.next = behind
	}
	return n, api.Piece{Mark: api.BodyRead, Body: data[:n]}
}

func (r *Reader) readBody(data string) (int, api.Piece) { return r.readPart(data, r.readEnd) }

func (r *Reader) readChunk(data string) (int, api.Piece) { return r.readPart(data, r.readCR) }

// readEnd reads the end of a body with a length: it has no bytes.
func (r *Reader) readEnd(string) (int, api.Piece) {
	r.finish()
	return 0, api.Piece{Mark: api.AllRead}
}

// readOne takes a byte that must be this one, and says what is read behind it.
func (r *Reader) readOne(data string, b byte, behind func(data string) (int, api.Piece)) (int, api.Piece) {
	if data == "" {
		return 0, api.Piece{}
	}
	if data[0] != b {
		return 1, r.breaks(400)
	}
	r.next = behind
	return 1, api.Piece{}
}

func (r *Reader) readCR(data string) (int, api.Piece) { return r.readOne(data, '\r', r.readLF) }

func (r *Reader) readLF(data string) (int, api.Piece) { return r.readOne(data, '\n', r.readSize) }

func (r *Reader) readSize(data string) (int, api.Piece) {
	return r.readLine(data, sizeLine, 400, r.useSize)
}

func (r *Reader) readTrailer(data string) (int, api.Piece) {
	return r.readLine(data, r.list, 431, r.useTrailer)
}

// useSize takes the line ahead of a chunk.
func (r *Reader) useSize(line string) api.Piece {
	digits, _, _ := strings.Cut(line, ";")
	size, err := text.Hex(digits)
	switch {
	case err != api.OK || len(digits) > sizeDigits:
		return r.breaks(400)
	case size > r.room:
		return r.breaks(413)
	case size == 0:
		r.next = r.readTrailer
	default:
		r.room -= size
		r.left = size
		r.next = r.readChunk
	}
	return api.Piece{}
}

// useTrailer takes a field line behind the chunks, or the empty line behind them all.
func (r *Reader) useTrailer(line string) api.Piece {
	if line != "" {
		return r.addField(line)
	}
	trailers := r.fields.list
	if msg.Trailers(trailers) != api.OK {
		return r.breaks(400)
	}
	r.finish()
	return api.Piece{Mark: api.AllRead, Fields: trailers}
}
