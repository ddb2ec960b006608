package stream

import (
	"math"
	"slices"
	"strings"
	"testing"

	"ostler/api"
)

const (
	greatest = 2147483647
	mostOpen = 65536
)

var fine = api.Wrong{}

func conn(c api.Code) api.Wrong { return api.Wrong{Is: true, Conn: true, Code: c} }

func one(c api.Code) api.Wrong { return api.Wrong{Is: true, Code: c} }

func newBook(t testing.TB, most int) *Book {
	t.Helper()
	b, err := New(most)
	if b == nil || err != api.OK {
		t.Fatal(most, b, err)
	}
	return b
}

// numbers are some that look scattered, the same ones for the same seed.
func numbers(seed uint64) func(n int) int {
	return func(n int) int {
		seed = seed*6364136223846793005 + 1442695040888963407
		return int(seed>>33) % n
	}
}

func wantDo(t *testing.T, b *Book, step api.Step, id int, end bool, wrong api.Wrong, counts bool) {
	t.Helper()
	if w, is := b.Do(step, id, end); w != wrong || is != counts {
		t.Errorf("Do(%d, %d, %v) = %v %v, not %v %v", step, id, end, w, is, wrong, counts)
	}
}

func wantPhase(t *testing.T, b *Book, id int, want api.Phase) {
	t.Helper()
	if p := b.Phase(id); p != want {
		t.Errorf("Phase(%d) = %d, not %d", id, p, want)
	}
}

func wantLast(t *testing.T, b *Book, want int) {
	t.Helper()
	if n := b.Last(); n != want {
		t.Errorf("Last = %d, not %d", n, want)
	}
}

func wantOpen(t *testing.T, b *Book, want ...int) {
	t.Helper()
	if ids := b.Open(); !slices.Equal(ids, want) {
		t.Errorf("Open = %v, not %v", ids, want)
	}
}

// The chapter's examples.

func TestExamples(t *testing.T) {
	b := newBook(t, 1)
	wantDo(t, b, api.GotData, 1, false, conn(api.Protocol), false)
	wantDo(t, b, api.GotHeaders, 2, false, conn(api.Protocol), false)
	wantDo(t, b, api.GotPriority, 1, false, fine, false)
	wantDo(t, b, api.GotHeaders, 1, false, fine, true)
	wantPhase(t, b, 1, api.Live)
	wantPhase(t, b, 3, api.Idle)
	wantLast(t, b, 1)
	wantDo(t, b, api.GotHeaders, 3, true, one(api.Refused), false)
	wantPhase(t, b, 1, api.Live)
	wantPhase(t, b, 3, api.Dropped)
	wantLast(t, b, 3)
	wantDo(t, b, api.GotData, 3, false, fine, false)
	wantDo(t, b, api.GotHeaders, 1, false, one(api.Protocol), false)
	wantDo(t, b, api.GotData, 1, true, fine, true)
	wantPhase(t, b, 1, api.Asked)
	wantDo(t, b, api.SentHeaders, 1, false, fine, true)
	wantDo(t, b, api.SentData, 1, true, fine, true)
	wantPhase(t, b, 1, api.Over)
	wantDo(t, b, api.GotData, 1, false, conn(api.StreamClosed), false)
	wantDo(t, b, api.GotWindow, 1, false, fine, false)
	wantDo(t, b, api.GotReset, 1, false, fine, false)
	wantDo(t, b, api.GotHeaders, 5, false, fine, true)
	wantDo(t, b, api.SentReset, 5, false, fine, true)
	wantPhase(t, b, 5, api.Dropped)
	wantPhase(t, b, 3, api.Over)
	wantDo(t, b, api.GotData, 3, false, conn(api.StreamClosed), false)
	b.Stop()
	wantDo(t, b, api.GotHeaders, 9, false, fine, false)
	wantDo(t, b, api.GotData, 9, false, fine, false)
	wantDo(t, b, api.GotData, 7, false, fine, false)
	wantDo(t, b, api.GotData, 11, false, conn(api.Protocol), false)
	wantLast(t, b, 5)
}

// P8.1

func TestNew(t *testing.T) {
	for _, most := range []int{math.MinInt, -65536, -1, 0, mostOpen + 1, greatest, 1 << 32, 1<<32 + 1, math.MaxInt} {
		if b, err := New(most); b != nil || err != api.ErrArg {
			t.Error(most, b, err)
		}
	}
	for _, most := range []int{1, 2, 100, mostOpen - 1, mostOpen} {
		b := newBook(t, most)
		wantLast(t, b, 0)
		wantOpen(t, b)
		for _, id := range []int{-1, 0, 1, 2, 3, greatest} {
			wantPhase(t, b, id, api.Idle)
		}
	}
}

// P8.2: streams that there cannot be.

func TestNoStreams(t *testing.T) {
	sent := []api.Step{api.SentHeaders, api.SentData, api.SentReset}
	ids := []int{math.MinInt, math.MinInt + 1, -greatest, -3, -2, -1, 0, 2, 4, greatest - 1, greatest + 1, greatest + 2,
		1 << 32, 1<<32 + 1, 1<<32 + 3, math.MaxInt - 1, math.MaxInt}
	for _, stopped := range []bool{false, true} {
		b := newBook(t, 2)
		b.Do(api.GotHeaders, 1, false)
		b.Do(api.GotHeaders, 3, false)
		b.Do(api.GotHeaders, 5, false)
		if stopped {
			b.Stop()
			b.Do(api.GotHeaders, 9, false)
		}
		for _, id := range ids {
			for step := range 256 {
				want := conn(api.Protocol)
				if slices.Contains(sent, api.Step(step)) {
					want = one(api.Internal)
				}
				wantDo(t, b, api.Step(step), id, false, want, false)
				wantDo(t, b, api.Step(step), id, true, want, false)
			}
			wantPhase(t, b, id, api.Idle)
		}
		wantLast(t, b, 5)
		wantOpen(t, b, 1, 3)
		wantPhase(t, b, 5, api.Dropped)
	}
}

func TestGreatestStream(t *testing.T) {
	b := newBook(t, 1)
	wantDo(t, b, api.GotHeaders, greatest, false, fine, true)
	wantLast(t, b, greatest)
	wantOpen(t, b, greatest)
	wantPhase(t, b, greatest, api.Live)
	wantPhase(t, b, greatest-2, api.Over)
	wantPhase(t, b, greatest-1, api.Idle)
	wantPhase(t, b, greatest+2, api.Idle)
	wantDo(t, b, api.GotHeaders, greatest, true, fine, true)
	wantDo(t, b, api.GotHeaders, 1, true, conn(api.StreamClosed), false)
	b = newBook(t, 1)
	b.Stop()
	wantDo(t, b, api.GotHeaders, greatest, true, fine, false)
	wantDo(t, b, api.GotData, greatest, true, fine, false)
	wantDo(t, b, api.GotData, 1, true, fine, false)
	wantLast(t, b, 0)
}

func TestNoSteps(t *testing.T) {
	for _, phase := range allPhases() {
		b, id := bookIn(t, phase)
		for step := range 256 {
			if step >= 1 && step <= 8 {
				continue
			}
			wantDo(t, b, api.Step(step), id, false, one(api.Internal), false)
			wantDo(t, b, api.Step(step), id, true, one(api.Internal), false)
			wantPhase(t, b, id, phase)
		}
	}
	b := newBook(t, 1)
	b.Stop()
	b.Do(api.GotHeaders, 3, false)
	for _, id := range []int{1, 3, 5} {
		for _, step := range []api.Step{0, 9, 255} {
			wantDo(t, b, step, id, true, one(api.Internal), false)
		}
	}
}

// The table, each cell without and with an end.

func allPhases() []api.Phase {
	return []api.Phase{api.Idle, api.Live, api.Asked, api.Replied, api.Over, api.Dropped}
}

// bookIn is a book with a stream in some phase.
func bookIn(t testing.TB, phase api.Phase) (*Book, int) {
	b := newBook(t, 2)
	if phase == api.Idle {
		return b, 1
	}
	b.Do(api.GotHeaders, 1, phase == api.Asked)
	switch phase {
	case api.Replied:
		b.Do(api.SentHeaders, 1, true)
	case api.Over:
		b.Do(api.GotReset, 1, false)
	case api.Dropped:
		b.Do(api.SentReset, 1, false)
	}
	return b, 1
}

// cells is the chapter's table: a row a step, a cell a phase; behind a stroke what holds with an end, if it is another thing.
const cells = `
to-Live,counts|to-Asked,counts; stream-1|to-Asked,counts; stream-5; stream-1|to-Over,counts; conn-5; -
conn-1; counts|to-Asked,counts; stream-5; counts|to-Over,counts; conn-5; -
conn-1; to-Over,counts; to-Over,counts; to-Over,counts; -; to-Over
conn-1; counts; counts; counts; -; -
-; counts; counts; counts; -; -
stream-2; counts|to-Replied,counts; counts|to-Over,counts; stream-2; stream-2; stream-2
stream-2; counts|to-Replied,counts; counts|to-Over,counts; stream-2; stream-2; stream-2
stream-2; to-Dropped,counts; to-Dropped,counts; to-Dropped,counts; -; -
`

// effect is what a cell says.
type effect struct {
	wrong  api.Wrong
	counts bool
	moves  bool
	to     api.Phase
}

func effectOf(words string) effect {
	var e effect
	for _, word := range strings.Split(words, ",") {
		kind, what, _ := strings.Cut(word, "-")
		switch kind {
		case "counts":
			e.counts = true
		case "to":
			e.moves = true
			e.to = api.Phase(slices.Index([]string{"Idle", "Live", "Asked", "Replied", "Over", "Dropped"}, what))
		case "stream":
			e.wrong = one(api.Code(what[0] - '0'))
		case "conn":
			e.wrong = conn(api.Code(what[0] - '0'))
		}
	}
	return e
}

// table is the effects of each step (from 0 on), in each phase, without and with an end.
func table() [8][6][2]effect {
	var all [8][6][2]effect
	for i, row := range strings.Split(strings.TrimSpace(cells), "\n") {
		for j, cell := range strings.Split(row, "; ") {
			without, with, two := strings.Cut(cell, "|")
			if !two {
				with = without
			}
			all[i][j] = [2]effect{effectOf(without), effectOf(with)}
		}
	}
	return all
}

func TestTable(t *testing.T) {
	for i, row := range table() {
		for j, cell := range row {
			for k, e := range cell {
				phase := api.Phase(j)
				b, id := bookIn(t, phase)
				wantPhase(t, b, id, phase)
				wantDo(t, b, api.Step(i+1), id, k == 1, e.wrong, e.counts)
				if e.moves {
					phase = e.to
				}
				wantPhase(t, b, id, phase)
			}
		}
	}
}

// P8.2: headers of an Idle stream.

func TestRefused(t *testing.T) {
	for _, most := range []int{1, 2, 3, 7} {
		for _, end := range []bool{false, true} {
			b := newBook(t, most)
			for i := range most {
				wantDo(t, b, api.GotHeaders, 2*i+1, end, fine, true)
			}
			id := 2*most + 1
			wantDo(t, b, api.GotHeaders, id, end, one(api.Refused), false)
			wantPhase(t, b, id, api.Dropped)
			wantLast(t, b, id)
			b.Do(api.GotReset, 1, false)
			wantDo(t, b, api.GotHeaders, id+2, end, fine, true)
			wantDo(t, b, api.GotHeaders, id+4, end, one(api.Refused), false)
		}
	}
}

func TestSkippedStreamsAreOver(t *testing.T) {
	b := newBook(t, 4)
	b.Do(api.GotHeaders, 9, false)
	for id := 1; id < 9; id += 2 {
		wantPhase(t, b, id, api.Over)
		wantDo(t, b, api.GotHeaders, id, true, conn(api.StreamClosed), false)
		wantDo(t, b, api.GotPriority, id, true, fine, false)
		wantDo(t, b, api.SentReset, id, true, fine, false)
	}
	wantOpen(t, b, 9)
	wantLast(t, b, 9)
}

// P8.3

func TestDroppedFirst(t *testing.T) {
	b := newBook(t, 3)
	for _, id := range []int{1, 3, 5} {
		b.Do(api.GotHeaders, id, false)
	}
	for _, id := range []int{5, 1, 3} {
		wantDo(t, b, api.SentReset, id, false, fine, true)
		wantPhase(t, b, id, api.Dropped)
	}
	// The order is that of the drops: to drop one again changes nothing.
	wantDo(t, b, api.SentReset, 5, false, fine, false)
	for i, first := range []int{5, 1, 3, 7, 9, 11} {
		id := 7 + 2*i
		wantPhase(t, b, first, api.Dropped)
		b.Do(api.GotHeaders, id, true)
		wantPhase(t, b, first, api.Dropped)
		wantDo(t, b, api.SentReset, id, false, fine, true)
		wantPhase(t, b, first, api.Over)
		wantPhase(t, b, id, api.Dropped)
	}
}

func TestResetMakesRoomAmongDropped(t *testing.T) {
	b := newBook(t, 2)
	for id := 1; id <= 7; id += 2 {
		b.Do(api.GotHeaders, id, false)
	}
	wantPhase(t, b, 5, api.Dropped)
	wantPhase(t, b, 7, api.Dropped)
	wantDo(t, b, api.GotReset, 7, false, fine, false)
	wantPhase(t, b, 7, api.Over)
	b.Do(api.SentReset, 3, false)
	wantPhase(t, b, 5, api.Dropped)
	wantPhase(t, b, 3, api.Dropped)
	b.Do(api.SentReset, 1, false)
	wantPhase(t, b, 5, api.Over)
	wantPhase(t, b, 3, api.Dropped)
	wantPhase(t, b, 1, api.Dropped)
}

func TestGreatestMost(t *testing.T) {
	b := newBook(t, mostOpen)
	for i := range mostOpen {
		if w, is := b.Do(api.GotHeaders, 2*i+1, false); w != fine || !is {
			t.Fatal(i, w, is)
		}
	}
	for i := range mostOpen + 1 {
		if w, is := b.Do(api.GotHeaders, 2*(mostOpen+i)+1, false); w != one(api.Refused) || is {
			t.Fatal(i, w, is)
		}
		if i == mostOpen-1 {
			wantPhase(t, b, 2*mostOpen+1, api.Dropped)
		}
	}
	wantPhase(t, b, 2*mostOpen+1, api.Over)
	wantPhase(t, b, 2*mostOpen+3, api.Dropped)
	wantPhase(t, b, b.Last(), api.Dropped)
	if n := len(b.Open()); n != mostOpen {
		t.Error(n)
	}
}

// P8.4

func TestOpenIsNewMemory(t *testing.T) {
	b := newBook(t, 3)
	for _, id := range []int{1, 5, 7} {
		b.Do(api.GotHeaders, id, id == 5)
	}
	b.Do(api.SentHeaders, 1, true)
	first, second := b.Open(), b.Open()
	clear(first)
	_ = append(first[:0], 8, 8, 8)
	if !slices.Equal(second, []int{1, 5, 7}) {
		t.Error(second)
	}
	wantOpen(t, b, 1, 5, 7)
	b.Do(api.GotReset, 1, false)
	if !slices.Equal(second, []int{1, 5, 7}) {
		t.Error(second)
	}
	wantOpen(t, b, 5, 7)
}

func TestStop(t *testing.T) {
	b := newBook(t, 2)
	b.Do(api.GotHeaders, 1, false)
	b.Do(api.GotHeaders, 5, false)
	b.Stop()
	got := []api.Step{api.GotHeaders, api.GotData, api.GotReset, api.GotWindow, api.GotPriority}
	sent := []api.Step{api.SentHeaders, api.SentData, api.SentReset}
	for _, step := range got[1:4] {
		wantDo(t, b, step, 7, true, conn(api.Protocol), false)
	}
	wantDo(t, b, api.GotPriority, 7, true, fine, false)
	// Those of lesser numbers that come behind take nothing back.
	for _, id := range []int{9, 7, 9} {
		wantDo(t, b, api.GotHeaders, id, true, fine, false)
		for _, id := range []int{7, 9} {
			for _, step := range got {
				wantDo(t, b, step, id, false, fine, false)
				wantDo(t, b, step, id, true, fine, false)
			}
			for _, step := range sent {
				wantDo(t, b, step, id, true, one(api.Internal), false)
			}
			wantPhase(t, b, id, api.Idle)
		}
		wantDo(t, b, api.GotData, 11, false, conn(api.Protocol), false)
		wantDo(t, b, api.GotData, 3, false, conn(api.StreamClosed), false)
	}
	// What is open goes on as ever.
	wantOpen(t, b, 1, 5)
	wantLast(t, b, 5)
	wantDo(t, b, api.GotData, 5, true, fine, true)
	wantDo(t, b, api.SentHeaders, 5, true, fine, true)
	wantDo(t, b, api.SentReset, 1, true, fine, true)
	wantDo(t, b, api.GotHeaders, 1, true, fine, false)
	wantPhase(t, b, 1, api.Dropped)
	b.Stop()
	wantDo(t, b, api.GotHeaders, 11, false, fine, false)
	wantDo(t, b, api.GotData, 9, false, fine, false)
	wantOpen(t, b)
	wantLast(t, b, 5)
}

// R2

func TestNilBook(t *testing.T) {
	var b *Book
	b.Stop()
	for step := range 12 {
		for _, id := range []int{-1, 0, 1, 2, 3, greatest + 2} {
			wantDo(t, b, api.Step(step), id, true, fine, false)
			wantPhase(t, b, id, 0)
		}
	}
	wantLast(t, b, 0)
	wantOpen(t, b)
}

func TestBooksKnowNothingOfOneAnother(t *testing.T) {
	a, b := newBook(t, 1), newBook(t, 1)
	a.Do(api.GotHeaders, 1, false)
	a.Stop()
	wantLast(t, b, 0)
	wantDo(t, b, api.GotHeaders, 1, false, fine, true)
}

// plain is a book that follows the chapter word by word: it keeps the phase of each stream that ever had one.
type plain struct {
	table   [8][6][2]effect
	most    int
	last    int
	phases  map[int]api.Phase // of those that were begun
	drops   []int             // of all times
	stopped bool
	passed  map[int]bool
}

func newPlain(most int, table [8][6][2]effect) *plain {
	return &plain{table: table, most: most, phases: map[int]api.Phase{}, passed: map[int]bool{}}
}

func (p *plain) phase(id int) api.Phase {
	if id < 1 || id%2 == 0 || id > p.last {
		return api.Idle
	}
	if phase, begun := p.phases[id]; begun {
		return phase
	}
	return api.Over
}

// all are the streams in some of the phases, rising.
func (p *plain) all(phases ...api.Phase) []int {
	var ids []int
	for id := 1; id <= p.last; id += 2 {
		if slices.Contains(phases, p.phase(id)) {
			ids = append(ids, id)
		}
	}
	return ids
}

func (p *plain) open() []int { return p.all(api.Live, api.Asked, api.Replied) }

func (p *plain) set(id int, phase api.Phase) {
	p.phases[id] = phase
	if phase != api.Dropped {
		return
	}
	p.drops = append(p.drops, id)
	if len(p.all(api.Dropped)) <= p.most {
		return
	}
	for _, id := range p.drops {
		if p.phase(id) == api.Dropped {
			p.phases[id] = api.Over
			return
		}
	}
}

func (p *plain) do(step api.Step, id int, end bool) (api.Wrong, bool) {
	isGot := step >= api.GotHeaders && step <= api.GotPriority
	isSent := step >= api.SentHeaders && step <= api.SentReset
	if id < 1 || id%2 == 0 || id > greatest {
		if isSent {
			return one(api.Internal), false
		}
		return conn(api.Protocol), false
	}
	if !isGot && !isSent {
		return one(api.Internal), false
	}
	if p.stopped && id > p.last {
		if step == api.GotHeaders {
			for ; id > p.last; id -= 2 {
				p.passed[id] = true
			}
			return fine, false
		}
		if isGot && p.passed[id] {
			return fine, false
		}
	}
	now := p.phase(id)
	if step == api.GotHeaders && now == api.Idle {
		many := len(p.open())
		p.last = id
		if many == p.most {
			p.set(id, api.Dropped)
			return one(api.Refused), false
		}
	}
	k := 0
	if end {
		k = 1
	}
	e := p.table[step-1][now][k]
	if e.moves {
		p.set(id, e.to)
	}
	return e.wrong, e.counts
}

// pair is a book beside a plain one.
type pair struct {
	t     *testing.T
	book  *Book
	plain *plain
	did   []move
}

// move is a call: of Do, or of Stop, if the step is stopping.
type move struct {
	step api.Step
	id   int
	end  bool
}

const stopping api.Step = 255

func newPair(t *testing.T, most int, table [8][6][2]effect) *pair {
	return &pair{t: t, book: newBook(t, most), plain: newPlain(most, table)}
}

func (p *pair) do(m move) {
	p.t.Helper()
	p.did = append(p.did, m)
	if m.step == stopping {
		p.book.Stop()
		p.plain.stopped = true
		return
	}
	want, wantCounts := p.plain.do(m.step, m.id, m.end)
	if wrong, counts := p.book.Do(m.step, m.id, m.end); wrong != want || counts != wantCounts {
		p.t.Fatalf("%v %v, not %v %v, at %v", wrong, counts, want, wantCounts, p.did)
	}
}

// alike holds what the two tell of all streams against each other.
func (p *pair) alike(ids []int) {
	p.t.Helper()
	if p.book.Last() != p.plain.last {
		p.t.Fatal(p.book.Last(), p.plain.last, p.did)
	}
	if open := p.book.Open(); !slices.Equal(open, p.plain.open()) {
		p.t.Fatal(open, p.plain.open(), p.did)
	}
	for _, id := range ids {
		if phase := p.book.Phase(id); phase != p.plain.phase(id) {
			p.t.Fatal(id, phase, p.plain.phase(id), p.did)
		}
	}
}

// eachMove calls with all moves on some streams.
func eachMove(ids []int, call func(m move)) {
	for step := api.Step(0); step <= 9; step++ {
		for _, id := range ids {
			call(move{step: step, id: id})
			call(move{step: step, id: id, end: true})
		}
	}
	call(move{step: stopping})
}

func TestAllShortRows(t *testing.T) {
	ids, seen, cells := []int{0, 1, 2, 3, 5}, []int{-1, 0, 1, 2, 3, 4, 5, 7}, table()
	eachMove(ids, func(a move) {
		eachMove(ids, func(b move) {
			p := newPair(t, 1, cells)
			p.do(a)
			p.do(b)
			p.alike(seen)
		})
	})
}

// wholly are the moves that change something, or that tell one phase from another.
func wholly() []move {
	moves := []move{{step: stopping}}
	for _, id := range []int{1, 3, 5} {
		for _, end := range []bool{false, true} {
			moves = append(moves, move{step: api.GotHeaders, id: id, end: end})
		}
		moves = append(moves, move{step: api.GotData, id: id}, move{step: api.GotReset, id: id},
			move{step: api.SentData, id: id, end: true}, move{step: api.SentReset, id: id})
	}
	return moves
}

func TestAllLongerRows(t *testing.T) {
	moves, seen, cells := wholly(), []int{1, 3, 5, 7}, table()
	for _, most := range []int{1, 2} {
		var row func(long int, did []move)
		row = func(long int, did []move) {
			if long > 0 {
				for _, m := range moves {
					row(long-1, append(did, m))
				}
				return
			}
			p := newPair(t, most, cells)
			for _, m := range did {
				p.do(m)
			}
			p.alike(seen)
		}
		row(4, nil)
	}
}

func TestScatteredRows(t *testing.T) {
	cells := table()
	for seed := range 400 {
		n := numbers(uint64(seed))
		p := newPair(t, 1+n(5), cells)
		stopAt, long := n(600), 60+n(180)
		for i := range long {
			if i == stopAt {
				p.do(move{step: stopping})
			}
			before, phases := p.book.Last(), phasesOf(p.book)
			m := scattered(n, before)
			p.do(m)
			p.alike([]int{m.id, m.id - 2, m.id + 2, before, before + 2})
			wantsHold(p, m, before, phases)
		}
		p.alike(slices.Collect(func(yield func(int) bool) {
			for id := -2; id < p.plain.last+6 && yield(id); id++ {
			}
		}))
	}
}

// scattered is some move near the last stream, more often one that begins or ends something.
func scattered(n func(int) int, last int) move {
	id := max(last-1, 0) - 2*n(8) + 2*n(11) + 1
	if n(16) == 0 {
		id = n(last+8) - 2
	}
	step := api.Step(n(10))
	if n(3) == 0 {
		step = []api.Step{api.GotHeaders, api.SentReset, api.GotHeaders, api.SentData}[n(4)]
	}
	return move{step: step, id: id, end: n(2) == 0}
}

// P8.5

// phasesOf are the phases of the odd streams up to the last one.
func phasesOf(b *Book) map[int]api.Phase {
	phases := map[int]api.Phase{}
	for id := 1; id <= b.Last(); id += 2 {
		phases[id] = b.Phase(id)
	}
	return phases
}

// onward tells whether a stream may go from a phase to another one.
func onward(from, to api.Phase) bool {
	next := map[api.Phase][]api.Phase{
		api.Live:    {api.Asked, api.Replied, api.Over, api.Dropped},
		api.Asked:   {api.Over, api.Dropped},
		api.Replied: {api.Over, api.Dropped},
		api.Dropped: {api.Over},
	}
	return from == to || slices.Contains(next[from], to)
}

// wantsHold holds what follows from the promises against a book behind a move.
func wantsHold(p *pair, m move, before int, phases map[int]api.Phase) {
	p.t.Helper()
	last := p.book.Last()
	if len(p.book.Open()) > p.plain.most {
		p.t.Fatal("more are open than may be", p.did)
	}
	if last < before || last%2 == 0 && last != 0 {
		p.t.Fatal("no last stream", before, last, p.did)
	}
	if last != before && (m.step != api.GotHeaders || p.plain.stopped) {
		p.t.Fatal("another last stream", before, last, p.did)
	}
	for id, from := range phases {
		if to := p.book.Phase(id); !onward(from, to) {
			p.t.Fatal("a stream that went back", id, from, to, p.did)
		}
	}
}
