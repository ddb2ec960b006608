package h1

import "ostler/api"

// phase is how far a request has come.
type phase uint8

const (
	unread   phase = iota // not wholly read, if at all
	ready                 // read wholly and not taken
	underWay              // taken and not answered
)

// asked is a request that is being read, ready or under way.
type asked struct {
	phase   phase
	request api.Request // once it is taken, its method alone
	body    []byte      // what was read of it
	size    int         // how many bytes it all has
	old     bool        // its client speaks version 1.0
}

// whole tells whether it is read wholly, so that none is read behind it.
func (a *asked) whole() bool { return a.phase != unread }

// begin takes a request's head.
func (a *asked) begin(piece api.Piece) {
	r := piece.Request
	a.request = r
	a.old = piece.Old
	a.size = len(r.Method) + len(r.Scheme) + len(r.Authority) + len(r.Path) + bytesOf(r.Fields)
	if !piece.Has {
		a.phase = ready
	}
}

// goOn takes a part of the body. It is copied, or else all that came in with it would be kept.
func (a *asked) goOn(part string) {
	a.body = append(a.body, part...)
	a.size += len(part)
}

// end takes what stands behind the body.
func (a *asked) end(trailers []api.Field) {
	a.request.Trailers = trailers
	a.size += bytesOf(trailers)
	a.phase = ready
}

// take is the request, if it is ready. It is not kept but for what its answer hangs on.
func (a *asked) take() (api.Request, bool) {
	if a.phase != ready {
		return api.Request{}, false
	}
	r := a.request
	r.Body = string(a.body)
	a.request = api.Request{Method: r.Method}
	a.body = nil
	a.phase = underWay
	return r, true
}

// bytesOf is how many bytes fields' names and values have.
func bytesOf(fields []api.Field) int {
	n := 0
	for _, f := range fields {
		n += len(f.Name) + len(f.Value)
	}
	return n
}
