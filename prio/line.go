package prio

import "ostler/api"

// Line is who waits, and how urgently.
type Line struct {
	waiting map[int]api.Priority // each urgency from 0 to the greatest
	turns   [greatest + 1]turn   // of each urgency, among those with Parts
}

// turn is who was answered last: no id is free to stand for nobody, as any number may wait.
type turn struct {
	taken bool
	id    int
}

// New is an empty one.
func New() *Line { return &Line{} }

// Set makes one wait, or changes how urgently.
func (l *Line) Set(id int, p api.Priority) {
	if l == nil {
		return
	}
	if l.waiting == nil {
		l.waiting = map[int]api.Priority{}
	}
	p.Urgency = urgency(p)
	l.waiting[id] = p
}

// Remove makes one wait no more.
func (l *Line) Remove(id int) {
	if l == nil {
		return
	}
	delete(l.waiting, id)
}

// Next is who goes on, of those that can; -1: none.
func (l *Line) Next(can ...int) int {
	if l == nil {
		return 0
	}
	next, found := 0, false
	for _, id := range can {
		if _, waits := l.waiting[id]; waits && (!found || l.ahead(id, next)) {
			next, found = id, true
		}
	}
	if !found {
		return -1
	}
	if p := l.waiting[next]; p.Parts {
		l.turns[p.Urgency] = turn{taken: true, id: next}
	}
	return next
}

// Len is how many wait.
func (l *Line) Len() int {
	if l == nil {
		return 0
	}
	return len(l.waiting)
}

// ahead tells whether a goes on ahead of b. It orders all that wait, so where they stand in a list does not matter.
func (l *Line) ahead(a, b int) bool {
	p, q := l.waiting[a], l.waiting[b]
	if p.Urgency != q.Urgency {
		return p.Urgency < q.Urgency
	}
	if p.Parts != q.Parts {
		return !p.Parts
	}
	if p.Parts {
		// Who comes behind the last one goes ahead of those for whom the round begins anew.
		t := l.turns[p.Urgency]
		if behind := t.before(a); behind != t.before(b) {
			return behind
		}
	}
	return a < b
}

// before tells whether the round that this turn is of has yet to come to an id.
func (t turn) before(id int) bool { return t.taken && id > t.id }
