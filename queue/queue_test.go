package queue

import (
	"math"
	"slices"
	"testing"
	"time"

	"ostler/api"
)

const greatestSize = 65536

// numbers are some that look scattered, the same ones for the same seed.
func numbers(seed uint64) func(n int) int {
	return func(n int) int {
		seed = seed*6364136223846793005 + 1442695040888963407
		return int(seed>>33) % n
	}
}

func newQueue[T any](t *testing.T, size int) *Queue[T] {
	t.Helper()
	q, err := New[T](size)
	if q == nil || err != api.OK {
		t.Fatal(size, q, err)
	}
	return q
}

// queueOf is a queue in which these wait.
func queueOf[T any](t *testing.T, size int, waiting ...T) *Queue[T] {
	t.Helper()
	q := newQueue[T](t, size)
	for _, x := range waiting {
		if !q.Put(x) {
			t.Fatal("refused:", x)
		}
	}
	return q
}

func wantPut[T any](t *testing.T, q *Queue[T], x T, want bool) {
	t.Helper()
	if is := q.Put(x); is != want {
		t.Errorf("Put(%v) = %v", x, is)
	}
}

func wantTake[T comparable](t *testing.T, q *Queue[T], want T) {
	t.Helper()
	if x, is := q.Take(); x != want || !is {
		t.Errorf("Take = %v %v, not %v true", x, is, want)
	}
}

func wantNone[T comparable](t *testing.T, q *Queue[T]) {
	t.Helper()
	var none T
	if x, is := q.Take(); x != none || is {
		t.Errorf("Take = %v %v, though none waits", x, is)
	}
}

func wantDrain[T comparable](t *testing.T, q *Queue[T], want ...T) {
	t.Helper()
	if all := q.Drain(); !slices.Equal(all, want) {
		t.Errorf("Drain = %v, not %v", all, want)
	}
}

func wantCounts[T any](t *testing.T, q *Queue[T], waiting, room int) {
	t.Helper()
	if q.Len() != waiting || q.Room() != room {
		t.Errorf("Len %d, Room %d, not %d and %d", q.Len(), q.Room(), waiting, room)
	}
}

// The chapter's examples.

func TestExamples(t *testing.T) {
	q := newQueue[string](t, 2)
	wantPut(t, q, "a", true)
	wantPut(t, q, "b", true)
	wantPut(t, q, "c", false)
	wantCounts(t, q, 2, 0)
	wantTake(t, q, "a")
	wantPut(t, q, "c", true)
	wantDrain(t, q, "b", "c")
	wantNone(t, q)
}

// P11.1

func TestSizesThatMayNotBe(t *testing.T) {
	for _, size := range []int{math.MinInt, -greatestSize, -2, -1, 0, greatestSize + 1, greatestSize + 2, 2 * greatestSize, 1 << 32, 1<<32 + 1, math.MaxInt} {
		if q, err := New[int](size); q != nil || err != api.ErrArg {
			t.Error(size, q, err)
		}
		if q, err := New[struct{}](size); q != nil || err != api.ErrArg {
			t.Error(size, q, err)
		}
	}
}

func TestNothingWaitsInANewQueue(t *testing.T) {
	for _, size := range []int{1, 2, 3, 255, 256, 4096, greatestSize - 1, greatestSize} {
		q := newQueue[int](t, size)
		wantCounts(t, q, 0, size)
		wantNone(t, q)
		wantDrain(t, q)
		wantCounts(t, q, 0, size)
	}
}

// P11.2

func TestAsManyAsSizeWait(t *testing.T) {
	for _, size := range []int{1, 2, 3, 7, 8, 100, greatestSize - 1, greatestSize} {
		q := newQueue[int](t, size)
		for i := range size {
			if !q.Put(i) || q.Len() != i+1 || q.Room() != size-i-1 {
				t.Fatal(size, i, q.Len(), q.Room())
			}
		}
		for range 3 {
			wantPut(t, q, -1, false)
			wantCounts(t, q, size, 0)
		}
		for i := range size {
			if x, is := q.Take(); x != i || !is || q.Len() != size-i-1 || q.Room() != i+1 {
				t.Fatal(size, i, x, is, q.Len(), q.Room())
			}
		}
		wantNone(t, q)
	}
}

func TestARefusedOneChangesNothing(t *testing.T) {
	q := queueOf(t, 3, 1, 2, 3)
	wantPut(t, q, 4, false)
	wantPut(t, q, 1, false)
	wantTake(t, q, 1)
	wantPut(t, q, 5, true)
	wantPut(t, q, 6, false)
	wantDrain(t, q, 2, 3, 5)
	wantNone(t, q)
}

func TestOneThatIsPutTwiceWaitsTwice(t *testing.T) {
	q := queueOf(t, 4, 7, 7, 8, 7)
	wantCounts(t, q, 4, 0)
	wantDrain(t, q, 7, 7, 8, 7)
}

// P11.3

func TestTakeIsTheOneThatWaitedLongest(t *testing.T) {
	q := queueOf(t, 3, "c", "a", "b")
	for _, want := range []string{"c", "a", "b"} {
		wantTake(t, q, want)
	}
	for range 3 {
		wantNone(t, q)
		wantCounts(t, q, 0, 3)
	}
	wantPut(t, q, "d", true)
	wantTake(t, q, "d")
	wantNone(t, q)
}

func TestAZeroValueWaitsLikeAnyOther(t *testing.T) {
	ints := queueOf(t, 3, 0, 1, 0)
	wantTake(t, ints, 0)
	wantTake(t, ints, 1)
	wantTake(t, ints, 0)
	wantNone(t, ints)
	texts := queueOf(t, 2, "", "")
	wantDrain(t, texts, "", "")
	pointers := queueOf[*int](t, 1, nil)
	wantCounts(t, pointers, 1, 0)
	wantTake(t, pointers, nil)
	wantNone(t, pointers)
	things := queueOf[any](t, 2, nil, 5)
	wantTake[any](t, things, nil)
	wantTake[any](t, things, 5)
	wantNone(t, things)
}

func TestNoCallWaits(t *testing.T) {
	done := make(chan bool)
	small, great := newQueue[int](t, 1), newQueue[int](t, greatestSize)
	go func() {
		defer close(done)
		for _, q := range []*Queue[int]{small, great} {
			q.Take()
			q.Drain()
			for range q.Room() + 2 {
				q.Put(1)
			}
			q.Drain()
			q.Take()
		}
	}()
	select {
	case <-done:
	case <-time.After(time.Minute):
		t.Fatal("a call waits")
	}
}

// P11.4

func TestDrain(t *testing.T) {
	for size := 1; size <= 9; size++ {
		// So much was put and taken ahead of it.
		for ahead := range 2 * size {
			for waiting := range size + 1 {
				q := newQueue[int](t, size)
				for i := range ahead {
					wantPut(t, q, i, true)
					wantTake(t, q, i)
				}
				var want []int
				for i := range waiting {
					want = append(want, 100+i)
					wantPut(t, q, 100+i, true)
				}
				wantCounts(t, q, waiting, size-waiting)
				wantDrain(t, q, want...)
				wantCounts(t, q, 0, size)
				wantDrain(t, q)
				wantNone(t, q)
			}
		}
	}
}

func TestDrainOfAGreatQueue(t *testing.T) {
	q := newQueue[int](t, greatestSize)
	for round := range 2 {
		var want []int
		for i := range greatestSize {
			want = append(want, round+3*i)
			q.Put(round + 3*i)
		}
		if all := q.Drain(); !slices.Equal(all, want) {
			t.Error("not all of them, or in another order:", len(all))
		}
		wantCounts(t, q, 0, greatestSize)
	}
}

func TestADrainedQueueGoesOn(t *testing.T) {
	q := queueOf(t, 2, 1, 2)
	wantDrain(t, q, 1, 2)
	wantPut(t, q, 3, true)
	wantPut(t, q, 4, true)
	wantPut(t, q, 5, false)
	wantTake(t, q, 3)
	wantDrain(t, q, 4)
}

// P11.5

// paper is a queue as the chapter words it: all that was put and not refused, and how many of them were taken.
type paper struct {
	size  int
	put   []int
	taken int
}

func (p *paper) waiting() []int { return p.put[p.taken:] }

// The moves of the tests below.
const (
	put = iota
	take
	drain
	moves
)

// do does one move to a queue and to its paper, and holds them against each other.
func do(t *testing.T, q *Queue[int], p *paper, move, x int) {
	t.Helper()
	switch move {
	case put:
		fits := len(p.waiting()) < p.size
		wantPut(t, q, x, fits)
		if fits {
			p.put = append(p.put, x)
		}
	case take:
		if len(p.waiting()) == 0 {
			wantNone(t, q)
		} else {
			wantTake(t, q, p.waiting()[0])
			p.taken++
		}
	case drain:
		wantDrain(t, q, p.waiting()...)
		p.taken = len(p.put)
	}
	wantCounts(t, q, len(p.waiting()), p.size-len(p.waiting()))
}

func TestAllShortRowsOfMoves(t *testing.T) {
	const most = 8
	rows := 1
	for range most {
		rows *= moves
	}
	for size := 1; size <= 4; size++ {
		for row := range rows {
			q, p := newQueue[int](t, size), &paper{size: size}
			rest := row
			for i := range most {
				do(t, q, p, rest%moves, i+1)
				rest /= moves
			}
			if t.Failed() {
				t.Fatal("size", size, "row", row)
			}
		}
	}
}

func TestLongRowsOfMoves(t *testing.T) {
	for seed := range uint64(200) {
		scattered := numbers(seed)
		size := 1 + scattered(40)
		puts := 1 + scattered(5)
		q, p := newQueue[int](t, size), &paper{size: size}
		for range 1000 {
			move := put
			switch n := scattered(100); {
			case n == 0:
				move = drain
			case n%(puts+2) < 2:
				move = take
			}
			do(t, q, p, move, scattered(10)-5)
		}
		if t.Failed() {
			t.Fatal("seed", seed, "size", size)
		}
	}
}

func TestWhatWasPutIsTakenOnceInTheSameOrder(t *testing.T) {
	for seed := range uint64(50) {
		scattered := numbers(seed)
		q := newQueue[int](t, 1+scattered(10))
		var put, taken []int
		for i := range 2000 {
			for range scattered(4) {
				if q.Put(i) {
					put = append(put, i)
				}
			}
			for range scattered(4) {
				if x, is := q.Take(); is {
					taken = append(taken, x)
				}
			}
			if scattered(20) == 0 {
				taken = append(taken, q.Drain()...)
			}
		}
		taken = append(taken, q.Drain()...)
		if !slices.Equal(put, taken) {
			t.Fatalf("seed %d: %d were put and %d taken, or in another order", seed, len(put), len(taken))
		}
	}
}

func TestQueuesKnowNothingOfEachOther(t *testing.T) {
	a, b, c := queueOf(t, 2, 1), queueOf(t, 2, 2, 3), queueOf(t, 3, "x")
	wantPut(t, b, 4, false)
	wantPut(t, a, 5, true)
	wantCounts(t, a, 2, 0)
	wantCounts(t, b, 2, 0)
	wantCounts(t, c, 1, 2)
	wantDrain(t, b, 2, 3)
	wantNone(t, b)
	wantCounts(t, a, 2, 0)
	wantTake(t, a, 1)
	wantPut(t, b, 6, true)
	wantDrain(t, a, 5)
	wantTake(t, b, 6)
	wantDrain(t, c, "x")
}

// A generic type: of anything.

func TestAQueueOfStructs(t *testing.T) {
	type job struct {
		conn    int
		request api.Request
	}
	q := newQueue[job](t, 2)
	one := job{conn: 7, request: api.Request{Method: "GET", Fields: []api.Field{{Name: "a", Value: "b"}}}}
	wantPut(t, q, one, true)
	// The one that waits is the one that was put, whatever becomes of the variable.
	one.conn, one.request.Method = 8, "PUT"
	wantPut(t, q, one, true)
	first, is := q.Take()
	if !is || first.conn != 7 || first.request.Method != "GET" || !slices.Equal(first.request.Fields, one.request.Fields) {
		t.Error(first, is)
	}
	all := q.Drain()
	if len(all) != 1 || all[0].conn != 8 || all[0].request.Method != "PUT" {
		t.Error(all)
	}
	if x, is := q.Take(); is || x.conn != 0 || x.request.Method != "" || x.request.Fields != nil {
		t.Error(x, is)
	}
}

func TestAQueueOfNothings(t *testing.T) {
	q := queueOf(t, 2, struct{}{}, struct{}{})
	wantPut(t, q, struct{}{}, false)
	wantTake(t, q, struct{}{})
	wantDrain(t, q, struct{}{})
	wantNone(t, q)
	great := newQueue[struct{}](t, greatestSize)
	for range greatestSize {
		great.Put(struct{}{})
	}
	wantPut(t, great, struct{}{}, false)
	if all := great.Drain(); len(all) != greatestSize {
		t.Error(len(all))
	}
}

func TestAQueueOfGreatThings(t *testing.T) {
	type great [1 << 20]byte
	q := newQueue[great](t, greatestSize)
	var x great
	for i := range byte(3) {
		x[len(x)-1] = i
		if !q.Put(x) {
			t.Error(i)
		}
	}
	wantCounts(t, q, 3, greatestSize-3)
	if y, is := q.Take(); !is || y[len(y)-1] != 0 {
		t.Error(y[len(y)-1], is)
	}
	if all := q.Drain(); len(all) != 2 || all[0][len(x)-1] != 1 || all[1][len(x)-1] != 2 {
		t.Error(len(all))
	}
}

func TestAQueueOfFunctionsAndOfQueues(t *testing.T) {
	functions := queueOf(t, 2, func() int { return 1 }, func() int { return 2 })
	for want := 1; want <= 2; want++ {
		if f, is := functions.Take(); !is || f() != want {
			t.Error(want, is)
		}
	}
	if f, is := functions.Take(); f != nil || is {
		t.Error(is)
	}
	inner := queueOf(t, 1, 5)
	queues := queueOf(t, 1, inner)
	wantTake(t, queues, inner)
	wantTake(t, inner, 5)
}

// R1, R2

func TestNilQueue(t *testing.T) {
	var q *Queue[int]
	for range 2 {
		wantPut(t, q, 1, false)
		wantNone(t, q)
		wantCounts(t, q, 0, 0)
		wantDrain(t, q)
	}
}

func TestQueueThatNewDidNotMake(t *testing.T) {
	q := &Queue[string]{}
	for range 2 {
		wantPut(t, q, "a", false)
		wantNone(t, q)
		wantCounts(t, q, 0, 0)
		wantDrain(t, q)
	}
}

func TestDrainIsNewMemory(t *testing.T) {
	q := queueOf(t, 3, 1, 2, 3)
	first := q.Drain()
	wantPut(t, q, 4, true)
	wantPut(t, q, 5, true)
	first[0], first[1] = 90, 91
	// Nor is there anything of the queue in the spare room.
	_ = append(first, 92, 93, 94)
	second := q.Drain()
	if !slices.Equal(second, []int{4, 5}) {
		t.Error(second)
	}
	second[0] = 95
	if !slices.Equal(first, []int{90, 91, 3}) {
		t.Error(first)
	}
	wantNone(t, q)
}

func TestSameCallsSameAnswers(t *testing.T) {
	a, b := newQueue[int](t, 5), newQueue[int](t, 5)
	scattered := numbers(1)
	for i := range 5000 {
		if scattered(2) == 0 {
			if a.Put(i) != b.Put(i) {
				t.Fatal(i)
			}
			continue
		}
		x, isX := a.Take()
		y, isY := b.Take()
		if x != y || isX != isY {
			t.Fatal(i, x, isX, y, isY)
		}
	}
}
