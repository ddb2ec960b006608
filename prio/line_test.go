package prio

import (
	"math"
	"slices"
	"testing"

	"ostler/api"
)

// numbers are some that look scattered, the same ones for the same seed.
func numbers(seed uint64) func(n int) int {
	return func(n int) int {
		seed = seed*6364136223846793005 + 1442695040888963407
		return int(seed>>33) % n
	}
}

func wantNext(t *testing.T, l *Line, want int, can ...int) {
	t.Helper()
	if id := l.Next(can...); id != want {
		t.Errorf("Next(%v) = %d, not %d", can, id, want)
	}
}

func wantLen(t *testing.T, l *Line, want int) {
	t.Helper()
	if n := l.Len(); n != want {
		t.Errorf("Len = %d, not %d", n, want)
	}
}

// lineOf is a line in which these wait with one priority.
func lineOf(p api.Priority, ids ...int) *Line {
	l := New()
	for _, id := range ids {
		l.Set(id, p)
	}
	return l
}

// The chapter's examples.

func TestExampleOfALine(t *testing.T) {
	l := lineOf(parts(3), 1, 3)
	l.Set(5, plain(3))
	l.Set(7, plain(0))
	wantNext(t, l, 7, 1, 3, 5, 7)
	wantNext(t, l, 5, 1, 3, 5)
	wantNext(t, l, 1, 1, 3)
	wantNext(t, l, 3, 1, 3)
	wantNext(t, l, 1, 1, 3)
	wantNext(t, l, 3, 3)
	wantNext(t, l, -1, 9)
	wantNext(t, l, -1)
}

// P10.3

func TestNobodyWaitsInANewLine(t *testing.T) {
	l := New()
	if l == nil {
		t.Fatal("no line")
	}
	wantLen(t, l, 0)
	wantNext(t, l, -1)
	wantNext(t, l, -1, -1, 0, 1, math.MinInt, math.MaxInt)
	l.Remove(0)
	wantLen(t, l, 0)
}

func TestSetAndRemove(t *testing.T) {
	l := New()
	for i, id := range []int{0, -1, 5, math.MinInt, math.MaxInt} {
		l.Set(id, plain(3))
		wantLen(t, l, i+1)
		l.Set(id, parts(9))
		wantLen(t, l, i+1)
		wantNext(t, l, id, id)
	}
	l.Remove(7)
	wantLen(t, l, 5)
	wantNext(t, l, -1, 7)
	l.Remove(5)
	wantLen(t, l, 4)
	wantNext(t, l, -1, 5)
	l.Remove(5)
	wantLen(t, l, 4)
	l.Set(5, plain(0))
	wantLen(t, l, 5)
	wantNext(t, l, 5, 0, -1, 5, math.MinInt, math.MaxInt)
	for _, id := range []int{0, -1, 5, math.MinInt, math.MaxInt} {
		l.Remove(id)
	}
	wantLen(t, l, 0)
	wantNext(t, l, -1, 0, -1, 5, math.MinInt, math.MaxInt)
}

func TestSetChangesThePriority(t *testing.T) {
	l := lineOf(plain(3), 1, 2)
	wantNext(t, l, 1, 1, 2)
	l.Set(1, plain(4))
	wantNext(t, l, 2, 1, 2)
	l.Set(1, plain(2))
	wantNext(t, l, 1, 1, 2)
	l.Set(1, parts(3))
	wantNext(t, l, 2, 1, 2)
	l.Set(2, parts(3))
	wantNext(t, l, 1, 1, 2)
	wantNext(t, l, 2, 1, 2)
}

func TestLinesKnowNothingOfOneAnother(t *testing.T) {
	a, b := lineOf(parts(3), 1, 2), lineOf(parts(3), 1, 2, 3)
	wantNext(t, a, 1, 1, 2)
	wantNext(t, b, 1, 1, 2)
	wantNext(t, a, 2, 1, 2)
	a.Remove(2)
	wantNext(t, b, 2, 1, 2)
	wantLen(t, a, 1)
	wantLen(t, b, 3)
}

// P10.4

func TestUrgencyBeyondTheEnds(t *testing.T) {
	for _, below := range []int{-1, -2, -8, math.MinInt, 0} {
		// Alike urgent: of those without Parts the least.
		l := lineOf(plain(below), 2)
		l.Set(1, plain(0))
		l.Set(3, plain(0))
		wantNext(t, l, 1, 3, 2, 1)
		wantNext(t, l, 2, 3, 2)
		// And one round.
		l = lineOf(parts(below), 2)
		l.Set(1, parts(0))
		l.Set(3, parts(0))
		for _, id := range []int{1, 2, 3, 1} {
			wantNext(t, l, id, 1, 2, 3)
		}
		// Parts are looked at, not how far below.
		l.Set(4, plain(0))
		wantNext(t, l, 4, 1, 2, 3, 4)
	}
	for _, above := range []int{8, 9, 15, math.MaxInt, 7} {
		l := lineOf(plain(above), 1)
		l.Set(2, plain(7))
		wantNext(t, l, 1, 2, 1)
		l.Set(3, parts(6))
		wantNext(t, l, 3, 1, 2, 3)
		l = lineOf(parts(above), 2)
		l.Set(1, parts(7))
		l.Set(3, parts(7))
		for _, id := range []int{1, 2, 3, 1} {
			wantNext(t, l, id, 1, 2, 3)
		}
	}
}

func TestEachUrgencyAheadOfTheNext(t *testing.T) {
	for urgency := range 7 {
		for _, first := range []api.Priority{plain(urgency), parts(urgency)} {
			for _, second := range []api.Priority{plain(urgency + 1), parts(urgency + 1)} {
				l := lineOf(first, 9)
				l.Set(1, second)
				wantNext(t, l, 9, 1, 9)
				wantNext(t, l, 9, 9, 1)
				wantNext(t, l, 1, 1)
			}
		}
	}
}

func TestTheRoundBeginsAnew(t *testing.T) {
	l := lineOf(parts(3), 2, 4, 6)
	wantNext(t, l, 4, 4)
	wantNext(t, l, 6, 2, 6)
	wantNext(t, l, 2, 2, 4)
	wantNext(t, l, 2, 2)
	wantNext(t, l, 6, 6, 2)
	wantNext(t, l, 2, 2, 4, 6)
	// The last one of the round may be gone, or be urgent otherwise now: it is remembered all the same.
	wantNext(t, l, 4, 2, 4, 6)
	l.Remove(4)
	wantNext(t, l, 6, 2, 6)
	l.Set(4, parts(3))
	wantNext(t, l, 2, 2, 4, 6)
	l.Set(2, parts(5))
	l.Set(3, parts(3))
	l.Set(1, parts(3))
	wantNext(t, l, 3, 1, 2, 3, 4, 6)
}

func TestEachUrgencyHasARoundOfItsOwn(t *testing.T) {
	l := New()
	for urgency := range 8 {
		for i := range 3 {
			l.Set(100*i+urgency, parts(urgency))
		}
	}
	for turn := range 7 {
		for urgency := range 8 {
			wantNext(t, l, 100*(turn%3)+urgency, urgency, 100+urgency, 200+urgency)
		}
	}
}

func TestOneWithoutPartsIsNotRemembered(t *testing.T) {
	l := lineOf(parts(3), 1, 5, 9)
	l.Set(7, plain(3))
	wantNext(t, l, 1, 1, 5, 9)
	wantNext(t, l, 7, 1, 5, 7, 9)
	wantNext(t, l, 5, 1, 5, 9)
	// Nor if it has Parts from then on.
	wantNext(t, l, 7, 1, 5, 7, 9)
	l.Set(7, parts(3))
	wantNext(t, l, 7, 1, 5, 7, 9)
	wantNext(t, l, 9, 1, 5, 7, 9)
	// Of those without Parts the least goes on again and again.
	l.Set(5, plain(3))
	l.Set(9, plain(3))
	for range 3 {
		wantNext(t, l, 5, 1, 5, 7, 9)
	}
	l.Set(5, parts(3))
	l.Set(9, parts(3))
	wantNext(t, l, 1, 1, 5, 7, 9)
}

func TestNobodyIsNotRemembered(t *testing.T) {
	l := lineOf(parts(3), -2, -1, 4)
	wantNext(t, l, -2, -2, -1, 4)
	wantNext(t, l, -1)
	wantNext(t, l, -1, 8)
	wantNext(t, l, -1, -2, -1, 4) // -1 itself, which waits
	wantNext(t, l, 4, -2, -1, 4)
}

func TestAnyNumberMayWait(t *testing.T) {
	all := []int{math.MinInt, math.MinInt + 1, -2, -1, 0, 1, math.MaxInt - 1, math.MaxInt}
	l := lineOf(parts(3), all...)
	for range 3 {
		for _, id := range all {
			wantNext(t, l, id, all...)
		}
	}
	l = lineOf(plain(3), all...)
	for len(all) > 0 {
		wantNext(t, l, all[0], all...)
		wantNext(t, l, all[0], all...)
		all = all[1:]
	}
	// At first nobody was answered, whatever stands there.
	wantNext(t, lineOf(parts(0), 0, 1), 0, 0, 1)
	wantNext(t, lineOf(parts(0), math.MinInt, 5), math.MinInt, 5, math.MinInt)
	wantNext(t, lineOf(parts(0), -5, 5), -5, 5, -5)
}

func TestWhereOneStandsDoesNotMatter(t *testing.T) {
	rows := [][]int{{1, 2, 3}, {1, 3, 2}, {2, 1, 3}, {2, 3, 1}, {3, 1, 2}, {3, 2, 1}, {1, 1, 2, 3}, {3, 3, 3, 2, 2, 1}, {1, 2, 3, 1, 2, 3}, {8, 3, 8, 2, 9, 1, 0}}
	for _, row := range rows {
		l := lineOf(plain(3), 1, 2, 3)
		wantNext(t, l, 1, row...)
		l = lineOf(parts(3), 1, 2, 3)
		for _, id := range []int{1, 2, 3, 1} {
			wantNext(t, l, id, row...)
		}
		l.Set(2, plain(3))
		wantNext(t, l, 2, row...)
		l.Set(3, parts(2))
		wantNext(t, l, 3, row...)
	}
}

func TestNextWritesNothing(t *testing.T) {
	l := lineOf(parts(3), 1, 2, 3, 4)
	room := []int{3, 2, 2, 9, 1, 4}
	was := slices.Clone(room)
	// What lies behind the list's length is not read.
	wantNext(t, l, 2, room[:3]...)
	wantNext(t, l, 3, room[:3]...)
	wantNext(t, l, -1, room[:0]...)
	wantNext(t, l, 1, room[1:5]...)
	if !slices.Equal(room, was) {
		t.Error("the list was written into:", room)
	}
	// The list is not kept.
	room[4] = 2
	wantNext(t, l, 2, 1, 2)
}

// paper is a line as the chapter words it: who waits in a row, and all that was answered with Parts, of each urgency.
type paper struct {
	ids        []int
	priorities []api.Priority
	answered   [8][]int
}

func (p *paper) remove(id int) {
	if i := slices.Index(p.ids, id); i >= 0 {
		p.ids = slices.Delete(p.ids, i, i+1)
		p.priorities = slices.Delete(p.priorities, i, i+1)
	}
}

func (p *paper) set(id int, priority api.Priority) {
	p.remove(id)
	if priority.Urgency < 0 {
		priority.Urgency = 0
	}
	if priority.Urgency > 7 {
		priority.Urgency = 7
	}
	p.ids = append(p.ids, id)
	p.priorities = append(p.priorities, priority)
}

// those are all of can that wait with a priority, the least one first.
func (p *paper) those(can []int, priority api.Priority) []int {
	var ids []int
	for i, id := range p.ids {
		if p.priorities[i] == priority && slices.Contains(can, id) {
			ids = append(ids, id)
		}
	}
	slices.Sort(ids)
	return ids
}

func (p *paper) next(can []int) int {
	for urgency := range 8 {
		if ids := p.those(can, plain(urgency)); len(ids) > 0 {
			return ids[0]
		}
		ids := p.those(can, parts(urgency))
		if len(ids) == 0 {
			continue
		}
		id := ids[0]
		if done := p.answered[urgency]; len(done) > 0 {
			if i := slices.IndexFunc(ids, func(x int) bool { return x > done[len(done)-1] }); i >= 0 {
				id = ids[i]
			}
		}
		p.answered[urgency] = append(p.answered[urgency], id)
		return id
	}
	return -1
}

// move is one call on a line.
type move struct {
	step     int // 0 Set, 1 Remove, 2 Next
	id       int
	priority api.Priority
	can      []int
}

// do does one move to a line and to its paper, and holds them against each other.
func do(t *testing.T, l *Line, p *paper, m move) {
	t.Helper()
	switch m.step {
	case 0:
		l.Set(m.id, m.priority)
		p.set(m.id, m.priority)
	case 1:
		l.Remove(m.id)
		p.remove(m.id)
	case 2:
		was := *p
		if id, want := l.Next(m.can...), p.next(m.can); id != want {
			t.Fatalf("%v: Next(%v) = %d, not %d", was, m.can, id, want)
		}
	}
	if l.Len() != len(p.ids) {
		t.Fatalf("%v: Len = %d, not %d", *p, l.Len(), len(p.ids))
	}
}

func TestAllShortRowsOfMoves(t *testing.T) {
	moves := []move{{step: 1, id: 2}}
	for id := 1; id <= 3; id++ {
		for _, p := range []api.Priority{parts(3), plain(3), parts(2)} {
			moves = append(moves, move{id: id, priority: p})
		}
	}
	for _, can := range [][]int{{}, {2}, {1, 2}, {3, 1}, {3, 2, 1, 2}} {
		moves = append(moves, move{step: 2, can: can})
	}
	const most = 5
	row := make([]int, most)
	for more := true; more; {
		// Two wait already, so that a short row goes far.
		l, p := New(), &paper{}
		do(t, l, p, move{id: 1, priority: parts(3)})
		do(t, l, p, move{id: 3, priority: parts(3)})
		for _, i := range row {
			do(t, l, p, moves[i])
		}
		more = false
		for i := range row {
			if row[i]++; row[i] < len(moves) {
				more = true
				break
			}
			row[i] = 0
		}
	}
}

func TestLongRowsOfMoves(t *testing.T) {
	ends := []int{math.MinInt, math.MinInt + 1, -1, 0, math.MaxInt - 1, math.MaxInt}
	for seed := range uint64(200) {
		scattered := numbers(seed)
		many, urgencies := 1+scattered(20), 1+scattered(12)
		number := func() int {
			if scattered(5) == 0 {
				return ends[scattered(len(ends))]
			}
			return scattered(many) - 2
		}
		l, p := New(), &paper{}
		for range 500 {
			m := move{step: min(scattered(6), 2), id: number(), priority: api.Priority{Urgency: scattered(urgencies) - 2, Parts: scattered(4) > 0}}
			for range scattered(2 * many) {
				m.can = append(m.can, number())
			}
			do(t, l, p, m)
		}
	}
}

// P10.5

func TestEachIsAnsweredOnce(t *testing.T) {
	for seed := range uint64(100) {
		scattered := numbers(seed)
		p := parts(scattered(10) - 1)
		l := New()
		var ids []int
		for range 1 + scattered(30) {
			id := scattered(1000) - 500
			l.Set(id, p)
			if !slices.Contains(ids, id) {
				ids = append(ids, id)
			}
		}
		slices.Sort(ids)
		for range 20 {
			// Whatever was answered ahead of the round.
			for range scattered(5) {
				l.Next(ids[:1+scattered(len(ids))]...)
			}
			var answered []int
			for range ids {
				answered = append(answered, l.Next(ids...))
			}
			slices.Sort(answered)
			if !slices.Equal(answered, ids) {
				t.Fatalf("%v were answered, of %v", answered, ids)
			}
		}
	}
}

func TestNobodyAheadOfAMoreUrgentOne(t *testing.T) {
	for seed := range uint64(100) {
		scattered := numbers(seed)
		l, urgencies := New(), map[int]int{}
		for range 300 {
			id, urgency := scattered(15), scattered(8)
			l.Set(id, api.Priority{Urgency: urgency, Parts: scattered(2) == 0})
			urgencies[id] = urgency
			var can []int
			for range 1 + scattered(5) {
				can = append(can, scattered(15))
			}
			next := l.Next(can...)
			for _, other := range can {
				urgency, waits := urgencies[other]
				if waits && (next == -1 || urgency < urgencies[next]) {
					t.Fatalf("%v: Next(%v) = %d, though %d is more urgent", urgencies, can, next, other)
				}
			}
			if next != -1 && !slices.Contains(can, next) {
				t.Fatalf("Next(%v) = %d", can, next)
			}
		}
	}
}

// R1, R2

func TestNilLine(t *testing.T) {
	var l *Line
	for _, id := range []int{math.MinInt, -1, 0, 1, math.MaxInt} {
		l.Set(id, plain(3))
		l.Remove(id)
		wantNext(t, l, 0, id)
	}
	wantNext(t, l, 0)
	wantNext(t, l, 0, 1, 2, 3)
	wantLen(t, l, 0)
}

func TestLineThatNewDidNotMake(t *testing.T) {
	l := &Line{}
	l.Remove(1)
	wantNext(t, l, -1, 1)
	wantLen(t, l, 0)
	l.Set(1, parts(3))
	wantNext(t, l, 1, 1)
	wantLen(t, l, 1)
}

func TestManyWait(t *testing.T) {
	l := New()
	const many = 100000
	can := make([]int, many)
	for i := range can {
		can[i] = many - i
		l.Set(i+1, parts(i))
	}
	wantLen(t, l, many)
	wantNext(t, l, 1, can...)
	for _, id := range can {
		l.Remove(id)
	}
	wantLen(t, l, 0)
	wantNext(t, l, -1, can...)
}
