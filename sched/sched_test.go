package sched

import (
	"maps"
	"math"
	"math/big"
	"slices"
	"testing"

	"ostler/api"
)

const greatestCount = 4096

// numbers are some that look scattered, the same ones for the same seed.
func numbers(seed uint64) func(n int) int {
	return func(n int) int {
		seed = seed*6364136223846793005 + 1442695040888963407
		return int(seed>>33) % n
	}
}

func wantAdd(t *testing.T, s *Sched, id int, want api.Errno) {
	t.Helper()
	if err := s.Add(id); err != want {
		t.Errorf("Add(%d) = %d, not %d", id, int(err), int(want))
	}
}

func wantDrop(t *testing.T, s *Sched, id int, want bool) {
	t.Helper()
	if is := s.Drop(id); is != want {
		t.Errorf("Drop(%d) = %v", id, is)
	}
}

func wantWake(t *testing.T, s *Sched, id int, want bool) {
	t.Helper()
	if is := s.Wake(id); is != want {
		t.Errorf("Wake(%d) = %v", id, is)
	}
}

func wantSleep(t *testing.T, s *Sched, id int, want bool) {
	t.Helper()
	if is := s.Sleep(id); is != want {
		t.Errorf("Sleep(%d) = %v", id, is)
	}
}

func wantReady(t *testing.T, s *Sched, want ...int) {
	t.Helper()
	if ready := s.Ready(); !slices.Equal(ready, want) {
		t.Errorf("Ready = %v, not %v", ready, want)
	}
}

func wantPick(t *testing.T, s *Sched, n, want int) {
	t.Helper()
	if id, err := s.Pick(n); id != want || err != api.OK {
		t.Errorf("Pick(%d) = %d %d, not %d", n, id, int(err), want)
	}
}

func wantNone(t *testing.T, s *Sched) {
	t.Helper()
	for _, n := range []int{0, 1, -1, math.MaxInt, math.MinInt} {
		if id, err := s.Pick(n); id != 0 || err != api.ErrNone {
			t.Errorf("Pick(%d) = %d %d, though no task can run", n, id, int(err))
		}
	}
}

// schedOf is a scheduler whose tasks are these, and can run.
func schedOf(t *testing.T, ids ...int) *Sched {
	t.Helper()
	s := New()
	for _, id := range ids {
		wantAdd(t, s, id, api.OK)
		wantWake(t, s, id, true)
	}
	return s
}

// fullSched is one with as many tasks as may be, from 0 on, of which each one that step divides can run.
func fullSched(t *testing.T, step int) *Sched {
	t.Helper()
	s := New()
	for id := range greatestCount {
		wantAdd(t, s, id, api.OK)
		if id%step == 0 {
			wantWake(t, s, id, true)
		}
	}
	return s
}

// place is n modulo k, from 0 on, by numbers that have no end.
func place(n, k int) int {
	return int(new(big.Int).Mod(big.NewInt(int64(n)), big.NewInt(int64(k))).Int64())
}

// The chapter's examples.

func TestExamples(t *testing.T) {
	s := New()
	wantAdd(t, s, 5, api.OK)
	wantAdd(t, s, 5, api.ErrArg)
	wantAdd(t, s, 2, api.OK)
	wantAdd(t, s, -1, api.ErrArg)
	wantReady(t, s)
	if id, err := s.Pick(0); id != 0 || err != api.ErrNone {
		t.Error(id, int(err))
	}
	wantWake(t, s, 5, true)
	wantWake(t, s, 5, false)
	wantWake(t, s, 2, true)
	wantWake(t, s, 9, false)
	wantReady(t, s, 2, 5)
	wantPick(t, s, 0, 2)
	wantPick(t, s, 1, 5)
	wantPick(t, s, 2, 2)
	wantPick(t, s, -1, 5)
	wantSleep(t, s, 2, true)
	wantSleep(t, s, 2, false)
	wantReady(t, s, 5)
	wantDrop(t, s, 5, true)
	wantDrop(t, s, 5, false)
	wantReady(t, s)
}

// P12.1

func TestANewOneHasNoTasks(t *testing.T) {
	s := New()
	if s == nil {
		t.Fatal("none")
	}
	wantReady(t, s)
	wantNone(t, s)
	for _, id := range []int{math.MinInt, -1, 0, 1, greatestCount, math.MaxInt} {
		wantDrop(t, s, id, false)
		wantWake(t, s, id, false)
		wantSleep(t, s, id, false)
	}
	wantReady(t, s)
}

// P12.2

func TestNumbersThatMayBeTasks(t *testing.T) {
	for _, id := range []int{0, 1, 2, greatestCount - 1, greatestCount, 1 << 31, 1 << 32, math.MaxInt - 1, math.MaxInt} {
		s := New()
		wantAdd(t, s, id, api.OK)
		wantReady(t, s)
		wantWake(t, s, id, true)
		wantReady(t, s, id)
		wantPick(t, s, 0, id)
	}
}

func TestNumbersBelowNought(t *testing.T) {
	s := New()
	for _, id := range []int{-1, -2, -greatestCount, math.MinInt32, math.MinInt + 1, math.MinInt} {
		wantAdd(t, s, id, api.ErrArg)
		wantWake(t, s, id, false)
		wantSleep(t, s, id, false)
		wantDrop(t, s, id, false)
	}
	wantReady(t, s)
	wantNone(t, s)
}

func TestATaskThatItHas(t *testing.T) {
	s := New()
	wantAdd(t, s, 3, api.OK)
	wantAdd(t, s, 3, api.ErrArg)
	wantReady(t, s)
	wantWake(t, s, 3, true)
	// A refused one neither puts it to sleep nor makes it two.
	wantAdd(t, s, 3, api.ErrArg)
	wantReady(t, s, 3)
	wantSleep(t, s, 3, true)
	wantAdd(t, s, 3, api.ErrArg)
	wantDrop(t, s, 3, true)
	wantDrop(t, s, 3, false)
}

func TestATaskThatIsAddedSleeps(t *testing.T) {
	s := schedOf(t, 4, 6)
	wantAdd(t, s, 5, api.OK)
	wantReady(t, s, 4, 6)
	wantSleep(t, s, 5, false)
	wantWake(t, s, 5, true)
	wantReady(t, s, 4, 5, 6)
	// Also one that could run when it was dropped.
	wantDrop(t, s, 5, true)
	wantAdd(t, s, 5, api.OK)
	wantReady(t, s, 4, 6)
	wantWake(t, s, 5, true)
}

func TestAsManyTasksAsMayBe(t *testing.T) {
	// All of them can run, some do, and only the first one does.
	for _, step := range []int{1, 2, 3, greatestCount} {
		s := fullSched(t, step)
		ready := s.Ready()
		if len(ready) != (greatestCount+step-1)/step {
			t.Error(step, len(ready))
		}
		for _, id := range []int{greatestCount, greatestCount + 1, math.MaxInt} {
			wantAdd(t, s, id, api.ErrMany)
			wantWake(t, s, id, false)
			wantDrop(t, s, id, false)
		}
		wantReady(t, s, ready...)
	}
}

func TestWhichErrorIsFirst(t *testing.T) {
	s := fullSched(t, 2)
	// 0 can run, and 1 sleeps.
	for _, id := range []int{0, 1, greatestCount - 1, -1, math.MinInt} {
		wantAdd(t, s, id, api.ErrArg)
	}
	var none *Sched
	for _, id := range []int{0, 1, -1, math.MinInt, math.MaxInt} {
		wantAdd(t, none, id, api.ErrNil)
	}
}

func TestADroppedTaskMakesRoom(t *testing.T) {
	s := fullSched(t, 2)
	// One that can run, and one that sleeps.
	for i, id := range []int{10, 11} {
		wantDrop(t, s, id, true)
		wantAdd(t, s, greatestCount+i, api.OK)
		wantAdd(t, s, greatestCount+5, api.ErrMany)
		wantAdd(t, s, id, api.ErrMany)
	}
	// Neither waking nor sleeping does, nor what is refused.
	wantWake(t, s, 1, true)
	wantAdd(t, s, greatestCount+5, api.ErrMany)
	wantSleep(t, s, 0, true)
	wantAdd(t, s, greatestCount+5, api.ErrMany)
	wantDrop(t, s, greatestCount+5, false)
	wantAdd(t, s, greatestCount+5, api.ErrMany)
}

func TestTasksThatComeAndGo(t *testing.T) {
	s := New()
	for id := range 3 * greatestCount {
		wantAdd(t, s, id, api.OK)
		wantWake(t, s, id, true)
		if id%3 == 0 {
			wantSleep(t, s, id, true)
		}
		if id >= 10 {
			wantDrop(t, s, id-10, true)
		}
	}
	last := 3*greatestCount - 10
	var want []int
	for id := last; id < last+10; id++ {
		if id%3 != 0 {
			want = append(want, id)
		}
	}
	wantReady(t, s, want...)
}

// P12.3

func TestDrop(t *testing.T) {
	s := schedOf(t, 1, 2, 3)
	wantSleep(t, s, 2, true)
	wantDrop(t, s, 2, true)
	wantDrop(t, s, 2, false)
	wantWake(t, s, 2, false)
	wantSleep(t, s, 2, false)
	wantReady(t, s, 1, 3)
	wantDrop(t, s, 3, true)
	wantDrop(t, s, 3, false)
	wantSleep(t, s, 3, false)
	wantWake(t, s, 3, false)
	wantReady(t, s, 1)
	wantDrop(t, s, 1, true)
	wantReady(t, s)
	wantNone(t, s)
}

func TestDropOfATaskThatItNeverHad(t *testing.T) {
	s := schedOf(t, 0, 7)
	for _, id := range []int{math.MinInt, -7, -1, 1, 6, 8, math.MaxInt} {
		wantDrop(t, s, id, false)
	}
	wantReady(t, s, 0, 7)
}

// P12.4

func TestWakeAndSleep(t *testing.T) {
	s := New()
	for _, id := range []int{8, 0, 4} {
		wantAdd(t, s, id, api.OK)
	}
	for range 3 {
		for _, id := range []int{8, 0, 4} {
			wantSleep(t, s, id, false)
			wantWake(t, s, id, true)
			wantWake(t, s, id, false)
		}
		wantReady(t, s, 0, 4, 8)
		wantSleep(t, s, 4, true)
		wantSleep(t, s, 4, false)
		wantReady(t, s, 0, 8)
		wantSleep(t, s, 0, true)
		wantReady(t, s, 8)
		wantSleep(t, s, 8, true)
		wantReady(t, s)
		wantNone(t, s)
	}
}

func TestWakeAndSleepOfATaskThatItHasNot(t *testing.T) {
	s := schedOf(t, 2, 5)
	wantSleep(t, s, 5, true)
	for _, id := range []int{math.MinInt, -5, -2, -1, 0, 1, 3, 4, 6, math.MaxInt} {
		wantWake(t, s, id, false)
		wantSleep(t, s, id, false)
	}
	wantReady(t, s, 2)
	wantWake(t, s, 5, true)
	wantReady(t, s, 2, 5)
}

// P12.5

// orders are all orders of some numbers.
func orders(ids []int) [][]int {
	if len(ids) == 0 {
		return [][]int{nil}
	}
	var all [][]int
	for i, id := range ids {
		rest := slices.Concat(ids[:i], ids[i+1:])
		for _, order := range orders(rest) {
			all = append(all, append([]int{id}, order...))
		}
	}
	return all
}

func TestReadyIsRisingWhateverTheOrder(t *testing.T) {
	ids := []int{0, 3, 4, 1 << 40, math.MaxInt}
	for _, added := range orders(ids) {
		s := New()
		for _, id := range added {
			wantAdd(t, s, id, api.OK)
		}
		wantReady(t, s)
		for _, id := range added {
			wantWake(t, s, id, true)
		}
		wantReady(t, s, ids...)
	}
	for _, woken := range orders(ids) {
		s := New()
		for _, id := range ids {
			wantAdd(t, s, id, api.OK)
		}
		for i, id := range woken {
			wantWake(t, s, id, true)
			wantReady(t, s, slices.Sorted(slices.Values(woken[:i+1]))...)
		}
		for i, id := range woken {
			wantSleep(t, s, id, true)
			wantReady(t, s, slices.Sorted(slices.Values(woken[i+1:]))...)
		}
	}
}

func TestReadyOfAsManyAsMayBe(t *testing.T) {
	s := New()
	var want []int
	for i := range greatestCount {
		// From the greatest one down.
		id := 7 * (greatestCount - i)
		wantAdd(t, s, id, api.OK)
		wantWake(t, s, id, true)
		want = append(want, 7*(i+1))
	}
	wantReady(t, s, want...)
}

// P12.6

func TestPickIsTheOneInPlace(t *testing.T) {
	for k := 1; k <= 40; k++ {
		var ids []int
		for i := range k {
			ids = append(ids, 3*i*i)
		}
		s := schedOf(t, ids...)
		// These sleep, and have no place.
		wantAdd(t, s, 1, api.OK)
		wantAdd(t, s, math.MaxInt, api.OK)
		for n := -3*k - 1; n <= 3*k+1; n++ {
			wantPick(t, s, n, ids[place(n, k)])
		}
		for off := range 2*k + 1 {
			for _, n := range []int{math.MaxInt - off, math.MinInt + off, 1<<32 + off, math.MinInt32 - off} {
				wantPick(t, s, n, ids[place(n, k)])
			}
		}
	}
}

func TestPickOfAsManyAsMayBe(t *testing.T) {
	s := fullSched(t, 1)
	for _, n := range []int{0, 1, greatestCount - 1, greatestCount, greatestCount + 1, -1, -greatestCount, -greatestCount - 1, math.MaxInt, math.MinInt, math.MinInt + 1} {
		wantPick(t, s, n, place(n, greatestCount))
	}
}

func TestPickOfNoneThatCanRun(t *testing.T) {
	s := New()
	wantNone(t, s)
	wantAdd(t, s, 0, api.OK)
	wantAdd(t, s, 7, api.OK)
	wantNone(t, s)
	wantWake(t, s, 7, true)
	wantPick(t, s, 0, 7)
	wantSleep(t, s, 7, true)
	wantNone(t, s)
	wantWake(t, s, 0, true)
	wantPick(t, s, 0, 0)
	wantDrop(t, s, 0, true)
	wantNone(t, s)
}

func TestPickChangesNothing(t *testing.T) {
	s := schedOf(t, 1, 2, 3)
	for range 3 {
		for n := -4; n <= 4; n++ {
			wantPick(t, s, n, 1+place(n, 3))
			wantPick(t, s, n, 1+place(n, 3))
			wantReady(t, s, 1, 2, 3)
		}
	}
	// A task that was picked can run as before.
	wantWake(t, s, 1, false)
	wantSleep(t, s, 1, true)
	for range 2 {
		s.Pick(0)
		wantReady(t, s, 2, 3)
		wantSleep(t, s, 1, false)
	}
	wantWake(t, s, 1, true)
}

// P12.7

func TestEachTaskIsPickedOnce(t *testing.T) {
	for _, k := range []int{1, 2, 3, 4, 5, 7, 8, 16, 31, 100, greatestCount} {
		var ids []int
		for i := range k {
			ids = append(ids, 11*i+5)
		}
		s := schedOf(t, ids...)
		for _, first := range []int{math.MinInt, math.MinInt + 1, -10 * k, -k - 1, -k, 1 - k, -k / 2, -1, 0, 1, k - 1, k, 1<<31 - 2, math.MaxInt - 2*k, math.MaxInt - k, math.MaxInt - k + 1} {
			var picked []int
			for i := range k {
				id, err := s.Pick(first + i)
				if err != api.OK {
					t.Fatal(k, first, i, int(err))
				}
				picked = append(picked, id)
			}
			slices.Sort(picked)
			if !slices.Equal(picked, ids) {
				t.Errorf("of %d tasks, from %d on: not each one once", k, first)
			}
		}
	}
}

// All of it together.

// paper is a scheduler as the chapter words it: each task, and whether it can run.
type paper map[int]bool

func (p paper) ready() []int {
	var ids []int
	for id, can := range p {
		if can {
			ids = append(ids, id)
		}
	}
	slices.Sort(ids)
	return ids
}

func (p paper) add(id int) api.Errno {
	if _, has := p[id]; id < 0 || has {
		return api.ErrArg
	}
	if len(p) == greatestCount {
		return api.ErrMany
	}
	p[id] = false
	return api.OK
}

// The moves of the tests below.
const (
	add = iota
	drop
	wake
	sleep
	moves
)

// do does one move to a scheduler and to its paper, and holds them against each other.
func do(t *testing.T, s *Sched, p paper, move, id int) {
	t.Helper()
	can, has := p[id]
	switch move {
	case add:
		wantAdd(t, s, id, p.add(id))
	case drop:
		wantDrop(t, s, id, has)
		delete(p, id)
	case wake:
		wantWake(t, s, id, has && !can)
		if has {
			p[id] = true
		}
	case sleep:
		wantSleep(t, s, id, has && can)
		if has {
			p[id] = false
		}
	}
}

func wantPaper(t *testing.T, s *Sched, p paper) {
	t.Helper()
	ready := p.ready()
	wantReady(t, s, ready...)
	if len(ready) == 0 {
		wantNone(t, s)
		return
	}
	for n := -len(ready) - 1; n <= len(ready); n++ {
		wantPick(t, s, n, ready[place(n, len(ready))])
	}
}

func TestAllShortRowsOfMoves(t *testing.T) {
	const most, ids = 5, 3
	rows := 1
	for range most {
		rows *= moves * ids
	}
	for row := range rows {
		s, p := New(), paper{}
		for rest, i := row, 0; i < most; i++ {
			do(t, s, p, rest%moves, rest/moves%ids-1)
			rest /= moves * ids
		}
		wantReady(t, s, p.ready()...)
		if t.Failed() {
			t.Fatal("row", row)
		}
	}
}

func TestLongRowsOfMoves(t *testing.T) {
	for seed := range uint64(200) {
		scattered := numbers(seed)
		ids := 1 + scattered(30)
		s, p := New(), paper{}
		for range 500 {
			move := scattered(moves + 2)
			if move >= moves {
				// More that wake than sleep.
				move = wake
			}
			do(t, s, p, move, scattered(ids+2)-1)
			wantPaper(t, s, p)
		}
		if t.Failed() {
			t.Fatal("seed", seed)
		}
	}
}

func TestLongRowsOfMovesNearTheGreatestCount(t *testing.T) {
	s, p := New(), paper{}
	for id := range greatestCount {
		do(t, s, p, add, id)
	}
	scattered := numbers(1)
	refused := 0
	for i := range 20000 {
		if len(p) == greatestCount {
			refused++
		}
		do(t, s, p, []int{add, add, add, drop, wake, wake, sleep}[scattered(7)], scattered(greatestCount+50))
		if i%500 == 0 {
			wantReady(t, s, p.ready()...)
		}
	}
	if refused == 0 {
		t.Error("it was never full")
	}
	wantReady(t, s, p.ready()...)
	for _, id := range slices.Sorted(maps.Keys(p)) {
		do(t, s, p, drop, id)
	}
	wantReady(t, s)
}

// R1, R2

func TestNilSched(t *testing.T) {
	var s *Sched
	for _, n := range []int{math.MinInt, -1, 0, 1, math.MaxInt} {
		wantAdd(t, s, n, api.ErrNil)
		wantDrop(t, s, n, false)
		wantWake(t, s, n, false)
		wantSleep(t, s, n, false)
		if id, err := s.Pick(n); id != 0 || err != api.ErrNil {
			t.Error(n, id, int(err))
		}
		wantReady(t, s)
	}
}

func TestSchedThatNewDidNotMake(t *testing.T) {
	s := &Sched{}
	wantReady(t, s)
	wantNone(t, s)
	wantAdd(t, s, 1, api.OK)
	wantWake(t, s, 1, true)
	wantReady(t, s, 1)
}

func TestReadyIsNewMemory(t *testing.T) {
	s := schedOf(t, 1, 2, 3)
	first, second := s.Ready(), s.Ready()
	first[0], first[2] = 90, 92
	// Nor is there anything of the scheduler in the spare room.
	_ = append(first, 93, 94, 95, 96, 97)
	if !slices.Equal(second, []int{1, 2, 3}) {
		t.Error(second)
	}
	wantReady(t, s, 1, 2, 3)
	wantPick(t, s, 0, 1)
	// What the scheduler does later is not to be seen in a list that it gave.
	wantSleep(t, s, 1, true)
	wantAdd(t, s, 0, api.OK)
	wantWake(t, s, 0, true)
	wantDrop(t, s, 3, true)
	if !slices.Equal(second, []int{1, 2, 3}) {
		t.Error(second)
	}
	wantReady(t, s, 0, 2)
}

func TestSchedsKnowNothingOfEachOther(t *testing.T) {
	a, b := schedOf(t, 1, 2), schedOf(t, 2, 3)
	wantSleep(t, a, 2, true)
	wantReady(t, b, 2, 3)
	wantDrop(t, b, 2, true)
	wantWake(t, a, 2, true)
	wantAdd(t, b, 1, api.OK)
	wantReady(t, a, 1, 2)
	wantReady(t, b, 3)
	full, other := fullSched(t, 1), New()
	wantAdd(t, full, greatestCount, api.ErrMany)
	wantAdd(t, other, greatestCount, api.OK)
}

func TestSameTasksSamePicks(t *testing.T) {
	// However a scheduler came to have its tasks.
	a := schedOf(t, 9, 1, 5)
	b := schedOf(t, 1, 2, 3, 5, 9)
	wantSleep(t, b, 2, true)
	wantDrop(t, b, 3, true)
	for n := -10; n <= 10; n++ {
		x, errX := a.Pick(n)
		y, errY := b.Pick(n)
		if x != y || errX != errY {
			t.Error(n, x, int(errX), y, int(errY))
		}
	}
}
