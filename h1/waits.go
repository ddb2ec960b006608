package h1

// waits are pieces that wait to go out, one behind the other.
type waits []string

func (w *waits) add(pieces ...string) { *w = append(*w, pieces...) }

// next is the first one, which waits no more.
func (w *waits) next() string {
	piece := (*w)[0]
	(*w)[0] = "" // not kept ahead of the others
	*w = (*w)[1:]
	if len(*w) == 0 {
		*w = nil
	}
	return piece
}

// size is how many bytes they have.
func (w waits) size() int {
	n := 0
	for _, piece := range w {
		n += len(piece)
	}
	return n
}
