package flow

import "ostler/api"

// Gate is how much may come in.
type Gate struct {
	size int
	left int
	held int // what is neither left nor held is free
}

// NewGate is a gate of a size.
func NewGate(size int) (*Gate, api.Errno) {
	if size < 1 || size > api.GreatMost {
		return nil, api.ErrRange
	}
	return &Gate{size: size, left: size}, api.OK
}

// Got is so much that came in.
func (g *Gate) Got(n int) api.Errno {
	switch {
	case g == nil:
		return api.ErrNil
	case n < 0:
		return api.ErrArg
	case n > g.left:
		return api.ErrRange
	}
	g.left -= n
	g.held += n
	return api.OK
}

// Used is so much of it that was used.
func (g *Gate) Used(n int) api.Errno {
	switch {
	case g == nil:
		return api.ErrNil
	case n < 0:
		return api.ErrArg
	case n > g.held:
		return api.ErrRange
	}
	g.held -= n
	return api.OK
}

// Grant is what is to be granted anew just now: nothing while it is little, so that not each byte is told of.
func (g *Gate) Grant() int {
	if g == nil {
		return 0
	}
	free := g.size - g.left - g.held
	if 2*free < g.size {
		return 0
	}
	g.left += free
	return free
}

// Left is what may still come in.
func (g *Gate) Left() int {
	if g == nil {
		return 0
	}
	return g.left
}
