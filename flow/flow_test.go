package flow

import (
	"math"
	"math/big"
	"slices"
	"testing"

	"ostler/api"
)

const greatest = 2147483647

// borders are numbers at which an answer may turn, and the ends of all numbers.
func borders() []int {
	return []int{
		math.MinInt, math.MinInt + 1, math.MinInt + greatest, -2*greatest - 1, -2 * greatest, -greatest - 2, -greatest - 1, -greatest, -greatest + 1,
		-11, -10, -2, -1, 0, 1, 2, 10, 11, greatest - 11, greatest - 10, greatest - 1, greatest, greatest + 1, greatest + 2,
		2*greatest - 1, 2 * greatest, 2*greatest + 1, 1<<32 - 1, 1 << 32, 1<<32 + 1, 1<<32 + 10, math.MaxInt - greatest, math.MaxInt - 1, math.MaxInt,
	}
}

// numbers are some that look scattered, the same ones for the same seed.
func numbers(seed uint64) func(n int) int {
	return func(n int) int {
		seed = seed*6364136223846793005 + 1442695040888963407
		return int(seed>>33) % n
	}
}

func newWindow(t testing.TB, size int) *Window {
	t.Helper()
	w, err := New(max(size, 0))
	if w == nil || err != api.OK {
		t.Fatal(size, w, err)
	}
	if size < 0 {
		if err := w.Shift(size); err != api.OK {
			t.Fatal(size, err)
		}
	}
	return w
}

func newGate(t testing.TB, size int) *Gate {
	t.Helper()
	g, err := NewGate(size)
	if g == nil || err != api.OK {
		t.Fatal(size, g, err)
	}
	return g
}

func wantErrors(t *testing.T, got []api.Errno, want ...api.Errno) {
	t.Helper()
	if !slices.Equal(got, want) {
		t.Errorf("%d, not %d", got, want)
	}
}

func wantSize(t *testing.T, w *Window, want int) {
	t.Helper()
	if n := w.Size(); n != want {
		t.Errorf("Size = %d, not %d", n, want)
	}
}

func wantLeft(t *testing.T, g *Gate, want int) {
	t.Helper()
	if n := g.Left(); n != want {
		t.Errorf("Left = %d, not %d", n, want)
	}
}

func wantGrant(t *testing.T, g *Gate, want int) {
	t.Helper()
	if n := g.Grant(); n != want {
		t.Errorf("Grant = %d, not %d", n, want)
	}
}

func wantFits(t *testing.T, want, n int, windows ...*Window) {
	t.Helper()
	if is := Fits(n, windows...); is != want {
		t.Errorf("Fits(%d, %d windows) = %d, not %d", n, len(windows), is, want)
	}
}

// The chapter's examples.

func TestExamples(t *testing.T) {
	w := newWindow(t, 10)
	wantErrors(t, []api.Errno{w.Take(4), w.Take(7)}, api.OK, api.ErrRange)
	wantSize(t, w, 6)
	wantErrors(t, []api.Errno{w.Add(0), w.Add(2147483642), w.Add(2147483641)}, api.ErrArg, api.ErrRange, api.OK)

	w = newWindow(t, 10)
	wantErrors(t, []api.Errno{w.Shift(-15)}, api.OK)
	wantSize(t, w, -5)
	wantErrors(t, []api.Errno{w.Take(0), w.Take(1), w.Add(5)}, api.OK, api.ErrRange, api.OK)
	wantSize(t, w, 0)

	seven, twelve := newWindow(t, 7), newWindow(t, 12)
	wantFits(t, 7, 9, seven, twelve)
	wantFits(t, 5, 5, seven, twelve)
	wantFits(t, 9, 9)
	wantFits(t, 0, 9, newWindow(t, -1))

	g := newGate(t, 10)
	wantErrors(t, []api.Errno{g.Got(6), g.Got(5), g.Used(3)}, api.OK, api.ErrRange, api.OK)
	wantGrant(t, g, 0)
	wantErrors(t, []api.Errno{g.Used(2)}, api.OK)
	wantGrant(t, g, 5)
	wantLeft(t, g, 9)
	wantErrors(t, []api.Errno{g.Used(2), g.Got(9), g.Used(10)}, api.ErrRange, api.OK, api.OK)
	wantGrant(t, g, 10)
	wantLeft(t, g, 10)
}

// P9.1

func TestNew(t *testing.T) {
	for _, size := range borders() {
		w, err := New(size)
		if size >= 0 && size <= greatest {
			if w == nil || err != api.OK {
				t.Error(size, w, err)
			}
			wantSize(t, w, size)
		} else if w != nil || err != api.ErrRange {
			t.Error(size, w, err)
		}
	}
}

func TestWindowsKnowNothingOfOneAnother(t *testing.T) {
	a, b := newWindow(t, 10), newWindow(t, 10)
	wantErrors(t, []api.Errno{a.Take(3), b.Add(5)}, api.OK, api.OK)
	wantSize(t, a, 7)
	wantSize(t, b, 15)
}

// P9.2

// paper is a window as the chapter words it, in numbers that have no end.
type paper struct{ size *big.Int }

func (p *paper) moved(n int) *big.Int { return new(big.Int).Add(p.size, big.NewInt(int64(n))) }

func (p *paper) add(n int) api.Errno {
	if n < 1 {
		return api.ErrArg
	}
	if p.moved(n).Cmp(big.NewInt(greatest)) > 0 {
		return api.ErrRange
	}
	p.size = p.moved(n)
	return api.OK
}

func (p *paper) shift(n int) api.Errno {
	to := p.moved(n)
	if to.Cmp(big.NewInt(greatest)) > 0 || to.Cmp(big.NewInt(-greatest)) < 0 {
		return api.ErrRange
	}
	if n > greatest || n < -greatest {
		return api.ErrRange
	}
	p.size = to
	return api.OK
}

func (p *paper) take(n int) api.Errno {
	if n < 0 {
		return api.ErrArg
	}
	if n > 0 && big.NewInt(int64(n)).Cmp(p.size) > 0 {
		return api.ErrRange
	}
	p.size.Sub(p.size, big.NewInt(int64(n)))
	return api.OK
}

// both does one step to a window and to its paper, and holds them against each other.
func both(t *testing.T, w *Window, p *paper, step, n int) {
	t.Helper()
	was := w.Size()
	var got, want api.Errno
	switch step {
	case 0:
		got, want = w.Add(n), p.add(n)
	case 1:
		got, want = w.Shift(n), p.shift(n)
	case 2:
		got, want = w.Take(n), p.take(n)
	}
	if got != want {
		t.Errorf("size %d, step %d, %d: %d, not %d", was, step, n, got, want)
	}
	if is := big.NewInt(int64(w.Size())); is.Cmp(p.size) != 0 {
		t.Fatalf("size %d, step %d, %d: the size is %d, not %d", was, step, n, is, p.size)
	}
}

func TestEachStepFromEachSize(t *testing.T) {
	for _, size := range borders() {
		if size < -greatest || size > greatest {
			continue
		}
		at := append(borders(), size-1, size, size+1, -size-1, -size, -size+1,
			greatest-size-1, greatest-size, greatest-size+1, -greatest-size-1, -greatest-size, -greatest-size+1)
		for _, n := range at {
			for step := range 3 {
				both(t, newWindow(t, size), &paper{big.NewInt(int64(size))}, step, n)
			}
		}
	}
}

func TestAddToBelowNought(t *testing.T) {
	// More than the greatest size may be added, where the size stays within it.
	w := newWindow(t, -greatest)
	wantErrors(t, []api.Errno{w.Add(2*greatest + 1), w.Add(2 * greatest), w.Add(1)}, api.ErrRange, api.OK, api.ErrRange)
	wantSize(t, w, greatest)
}

func TestShiftBeyond(t *testing.T) {
	w := newWindow(t, -10)
	wantErrors(t, []api.Errno{w.Shift(greatest + 1), w.Shift(greatest), w.Shift(-greatest - 1), w.Shift(0)}, api.ErrRange, api.OK, api.ErrRange, api.OK)
	wantSize(t, w, greatest-10)
	wantErrors(t, []api.Errno{w.Shift(-greatest), w.Shift(-greatest), w.Shift(-greatest + 10), w.Shift(-1)}, api.OK, api.ErrRange, api.OK, api.ErrRange)
	wantSize(t, w, -greatest)
	wantErrors(t, []api.Errno{w.Shift(math.MinInt), w.Shift(math.MaxInt), w.Shift(-1), w.Take(0), w.Take(1), w.Take(-1)},
		api.ErrRange, api.ErrRange, api.ErrRange, api.OK, api.ErrRange, api.ErrArg)
	wantSize(t, w, -greatest)
}

// P9.3

// fitsBySteps goes up from 0 as long as the next number is no more than n and than each size.
func fitsBySteps(n int, windows []*Window) int {
	fits := 0
	for {
		next := fits + 1
		if next > n {
			return fits
		}
		for _, w := range windows {
			if w == nil || w.Size() < next {
				return fits
			}
		}
		fits = next
	}
}

func TestFitsOfFewWindows(t *testing.T) {
	some := []*Window{nil}
	for size := -2; size <= 4; size++ {
		some = append(some, newWindow(t, size))
	}
	for n := -2; n <= 6; n++ {
		wantFits(t, max(n, 0), n)
		for _, a := range some {
			wantFits(t, fitsBySteps(n, []*Window{a}), n, a)
			for _, b := range some {
				wantFits(t, fitsBySteps(n, []*Window{a, b}), n, a, b)
				for _, c := range some {
					wantFits(t, fitsBySteps(n, []*Window{a, b, c}), n, a, b, c)
				}
			}
		}
	}
}

func TestFitsAtTheEnds(t *testing.T) {
	great, low, none := newWindow(t, greatest), newWindow(t, -greatest), newWindow(t, 0)
	wantFits(t, math.MaxInt, math.MaxInt)
	wantFits(t, 0, math.MinInt)
	wantFits(t, 0, 0)
	wantFits(t, greatest, math.MaxInt, great)
	wantFits(t, greatest, greatest, great, great)
	wantFits(t, greatest-1, greatest-1, great)
	wantFits(t, 0, math.MinInt, great)
	wantFits(t, 0, math.MaxInt, great, low)
	wantFits(t, 0, math.MaxInt, low, great)
	wantFits(t, 0, math.MinInt, low)
	wantFits(t, 0, math.MaxInt, none)
	wantFits(t, 0, math.MaxInt, nil)
	wantFits(t, 0, -1, nil)
	wantFits(t, 0, 9, nil, great)
	wantFits(t, 0, 9, great, nil)
}

func TestFitsChangesNothing(t *testing.T) {
	list := []*Window{newWindow(t, 7), nil, newWindow(t, -3), newWindow(t, 4)}
	was := slices.Clone(list)
	wantFits(t, 0, 9, list...)
	if !slices.Equal(list, was) {
		t.Error("the list was written into")
	}
	wantSize(t, list[0], 7)
	wantSize(t, list[2], -3)
	wantSize(t, list[3], 4)
	// What lies behind the list's length is not read.
	wantFits(t, 7, 9, list[:1]...)
	wantFits(t, 9, 9, list[:0]...)
}

func TestFitsMayBeTakenOfAll(t *testing.T) {
	scattered := numbers(9)
	for range 2000 {
		a, b := newWindow(t, scattered(40)-5), newWindow(t, scattered(40)-5)
		n := Fits(scattered(50)-3, a, b)
		if err := a.Take(n); err != api.OK {
			t.Fatal(n, err)
		}
		if err := b.Take(n); err != api.OK {
			t.Fatal(n, err)
		}
	}
}

// P9.4

func TestNewGate(t *testing.T) {
	for _, size := range borders() {
		g, err := NewGate(size)
		if size < 1 || size > greatest {
			if g != nil || err != api.ErrRange {
				t.Error(size, g, err)
			}
			continue
		}
		if g == nil || err != api.OK {
			t.Fatal(size, g, err)
		}
		wantLeft(t, g, size)
		wantGrant(t, g, 0)
		wantErrors(t, []api.Errno{g.Used(1), g.Got(size + 1), g.Got(size), g.Got(1)}, api.ErrRange, api.ErrRange, api.OK, api.ErrRange)
		wantLeft(t, g, 0)
	}
}

func TestGatesKnowNothingOfOneAnother(t *testing.T) {
	a, b := newGate(t, 10), newGate(t, 10)
	wantErrors(t, []api.Errno{a.Got(6), b.Got(2), a.Used(6), b.Used(3)}, api.OK, api.OK, api.OK, api.ErrRange)
	wantGrant(t, b, 0)
	wantGrant(t, a, 6)
	wantLeft(t, a, 10)
	wantLeft(t, b, 8)
}

// P9.5

func TestGotAndUsedAtTheBorders(t *testing.T) {
	for _, size := range []int{1, 2, 10, 11, greatest - 1, greatest} {
		for _, n := range append(borders(), size-1, size, size+1) {
			want := api.OK
			switch {
			case n < 0:
				want = api.ErrArg
			case n > size:
				want = api.ErrRange
			}
			g := newGate(t, size)
			wantErrors(t, []api.Errno{g.Got(n)}, want)
			if want == api.OK {
				wantLeft(t, g, size-n)
				wantErrors(t, []api.Errno{g.Used(n + 1), g.Used(n), g.Used(0), g.Used(1)}, api.ErrRange, api.OK, api.OK, api.ErrRange)
				wantLeft(t, g, size-n)
				continue
			}
			wantLeft(t, g, size)
			wantErrors(t, []api.Errno{g.Got(size), g.Used(n), g.Used(size)}, api.OK, want, api.OK)
			wantGrant(t, g, size)
		}
	}
}

// P9.6

func TestGrantAtTheHalf(t *testing.T) {
	for size := 1; size <= 40; size++ {
		for free := 0; free <= size; free++ {
			g := newGate(t, size)
			wantErrors(t, []api.Errno{g.Got(size), g.Used(free)}, api.OK, api.OK)
			want := 0
			if free > 0 && free+free >= size {
				want = free
			}
			wantGrant(t, g, want)
			wantLeft(t, g, want)
			wantGrant(t, g, 0)
			wantLeft(t, g, want)
			wantErrors(t, []api.Errno{g.Used(size - free + 1), g.Used(size - free)}, api.ErrRange, api.OK)
		}
	}
}

func TestGrantOfTheGreatestSize(t *testing.T) {
	g := newGate(t, greatest)
	wantErrors(t, []api.Errno{g.Got(greatest), g.Used(greatest / 2)}, api.OK, api.OK)
	wantGrant(t, g, 0)
	wantErrors(t, []api.Errno{g.Used(1)}, api.OK)
	wantGrant(t, g, greatest/2+1)
	wantLeft(t, g, greatest/2+1)
	wantErrors(t, []api.Errno{g.Used(greatest / 2), g.Used(1)}, api.OK, api.ErrRange)
	wantGrant(t, g, 0)
	wantErrors(t, []api.Errno{g.Got(1), g.Used(1)}, api.OK, api.OK)
	wantGrant(t, g, greatest/2+1)
	wantLeft(t, g, greatest)
}

func TestWhatIsRefusedIsNotFree(t *testing.T) {
	g := newGate(t, 4)
	wantErrors(t, []api.Errno{g.Got(1), g.Used(2), g.Used(-1), g.Got(4)}, api.OK, api.ErrRange, api.ErrArg, api.ErrRange)
	wantGrant(t, g, 0)
	wantErrors(t, []api.Errno{g.Used(1)}, api.OK)
	wantGrant(t, g, 0)
	wantErrors(t, []api.Errno{g.Got(1), g.Used(1)}, api.OK, api.OK)
	wantGrant(t, g, 2)
	wantLeft(t, g, 4)
}

// P9.7

// heaps is a gate as the chapter words it.
type heaps struct{ size, left, held, free int }

func (h *heaps) got(n int) api.Errno {
	if n < 0 {
		return api.ErrArg
	}
	if n > h.left {
		return api.ErrRange
	}
	h.left, h.held = h.left-n, h.held+n
	return api.OK
}

func (h *heaps) used(n int) api.Errno {
	if n < 0 {
		return api.ErrArg
	}
	if n > h.held {
		return api.ErrRange
	}
	h.held, h.free = h.held-n, h.free+n
	return api.OK
}

func (h *heaps) grant() int {
	n := h.free
	if n <= 0 || 2*n < h.size {
		return 0
	}
	h.left, h.free = h.left+n, 0
	return n
}

// sums are what was got and granted in all.
type sums struct{ got, granted int }

// gateStep does one step to a gate and to its heaps, and holds them against each other and against what follows.
func gateStep(t *testing.T, g *Gate, h *heaps, s *sums, step, n int) {
	t.Helper()
	switch step {
	case 0:
		err := g.Got(n)
		if want := h.got(n); err != want {
			t.Fatalf("%v: Got(%d) = %d, not %d", *h, n, err, want)
		}
		if err == api.OK {
			s.got += n
		}
	case 1:
		if err, want := g.Used(n), h.used(n); err != want {
			t.Fatalf("%v: Used(%d) = %d, not %d", *h, n, err, want)
		}
	case 2:
		granted := g.Grant()
		if want := h.grant(); granted != want {
			t.Fatalf("%v: Grant = %d, not %d", *h, granted, want)
		}
		s.granted += granted
		if h.held == 0 && 2*g.Left() <= h.size {
			t.Fatalf("%v: all is used, and only %d is left behind a Grant", *h, g.Left())
		}
	}
	if g.Left() != h.left || g.Left()+h.held+h.free != h.size {
		t.Fatalf("%v: Left = %d", *h, g.Left())
	}
	if s.got > h.size+s.granted {
		t.Fatalf("%v: %v", *h, *s)
	}
}

func TestAllShortRowsOfGateSteps(t *testing.T) {
	type move struct{ step, n int }
	moves := []move{{2, 0}}
	for n := -1; n <= 3; n++ {
		moves = append(moves, move{0, n}, move{1, n})
	}
	const most = 5
	for size := 1; size <= 5; size++ {
		row := make([]int, most)
		for more := true; more; {
			g, h, s := newGate(t, size), &heaps{size: size, left: size}, &sums{}
			for _, i := range row {
				gateStep(t, g, h, s, moves[i].step, moves[i].n)
			}
			more = false
			for i := range row {
				if row[i]++; row[i] < len(moves) {
					more = true
					break
				}
				row[i] = 0
			}
		}
	}
}

func TestLongRowsOfGateSteps(t *testing.T) {
	for seed := range uint64(60) {
		scattered := numbers(seed)
		size := 1 + scattered(100)
		if seed%3 == 0 {
			size = greatest - scattered(2)
		}
		g, h, s := newGate(t, size), &heaps{size: size, left: size}, &sums{}
		for range 1000 {
			n := scattered(size/2+2) - 1
			switch scattered(6) {
			case 0:
				n = h.left + scattered(2)
			case 1:
				n = h.held + scattered(2)
			}
			gateStep(t, g, h, s, scattered(3), n)
		}
	}
}

func TestLongRowsOfWindowSteps(t *testing.T) {
	for seed := range uint64(60) {
		scattered := numbers(seed)
		size := scattered(100)
		if seed%3 == 0 {
			size = greatest - scattered(2)
		}
		w, p := newWindow(t, size), &paper{big.NewInt(int64(size))}
		sum := size
		for range 1000 {
			step, n := scattered(3), scattered(120)-40
			if scattered(8) == 0 {
				n = borders()[scattered(len(borders()))]
			}
			was := w.Size()
			both(t, w, p, step, n)
			switch {
			case was == w.Size():
			case step == 2:
				sum -= n
			default:
				sum += n
			}
		}
		wantSize(t, w, sum)
	}
}

// R2

func TestNilObjects(t *testing.T) {
	var w *Window
	var g *Gate
	wantSize(t, w, 0)
	wantLeft(t, g, 0)
	wantGrant(t, g, 0)
	for _, n := range borders() {
		wantErrors(t, []api.Errno{w.Add(n), w.Shift(n), w.Take(n), g.Got(n), g.Used(n)}, api.ErrNil, api.ErrNil, api.ErrNil, api.ErrNil, api.ErrNil)
	}
}
