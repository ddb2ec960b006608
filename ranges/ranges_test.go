package ranges

import (
	"fmt"
	"math"
	"math/big"
	"regexp"
	"slices"
	"strconv"
	"strings"
	"testing"

	"ostler/api"
)

// numbers are some that look scattered, the same ones for the same seed.
func numbers(seed uint64) func(n int) int {
	return func(n int) int {
		seed = seed*6364136223846793005 + 1442695040888963407
		return int(seed>>33) % n
	}
}

// eachText calls a function with each text of some pieces, at most so many of them.
func eachText(pieces []string, most int, do func(s string)) {
	var grow func(s string, left int)
	grow = func(s string, left int) {
		do(s)
		for _, piece := range pieces {
			if left > 0 {
				grow(s+piece, left-1)
			}
		}
	}
	grow("", most)
}

func oneByte(c int) string { return string([]byte{byte(c)}) }

func to(from, to int) api.Range { return api.Range{From: from, To: to} }

func wantRanges(t *testing.T, value string, size int, want ...api.Range) {
	t.Helper()
	if list, err := Parse(value, size); !slices.Equal(list, want) || err != api.OK {
		t.Errorf("Parse(%.80q, %d) = %.200s, %d, not %.200s", value, size, fmt.Sprint(list), int(err), fmt.Sprint(want))
	}
}

func wantError(t *testing.T, value string, size int, want api.Errno) {
	t.Helper()
	if list, err := Parse(value, size); len(list) != 0 || err != want {
		t.Errorf("Parse(%.80q, %d) = %.200s, %d, not the error %d", value, size, fmt.Sprint(list), int(err), int(want))
	}
}

// The plain reading of a list: an expression, and numbers that know no bound.

type reading struct{ list, piece *regexp.Regexp }

func newReading() reading {
	const piece = `(?:[0-9]{1,15}-[0-9]{1,15}|[0-9]{1,15}-|-[0-9]{1,15})`
	const around = `[\x20\x09]*(?:` + piece + `[\x20\x09]*)?`
	return reading{
		list:  regexp.MustCompile(`^bytes=` + around + `(?:,` + around + `)*$`),
		piece: regexp.MustCompile(`([0-9]*)-([0-9]*)`),
	}
}

func bigOf(digits string) *big.Int {
	n, _ := new(big.Int).SetString("0"+digits, 10)
	return n
}

// bytesByWords are the first and the last byte of a piece, of a body of so many bytes; less than one, if the last is ahead of the first.
func bytesByWords(a, b string, size int) (from, to *big.Int) {
	last := new(big.Int).Sub(big.NewInt(int64(size)), big.NewInt(1))
	switch {
	case a == "":
		from = new(big.Int).Sub(big.NewInt(int64(size)), bigOf(b))
		if from.Sign() < 0 {
			from = new(big.Int)
		}
		return from, last
	case b != "" && bigOf(b).Cmp(last) < 0:
		return bigOf(a), bigOf(b)
	}
	return bigOf(a), last
}

func (r reading) parse(value string, size int) ([]api.Range, api.Errno) {
	if size < 0 {
		return nil, api.ErrArg
	}
	found := r.piece.FindAllStringSubmatch(value, -1)
	if !r.list.MatchString(value) || len(found) == 0 {
		return nil, api.ErrBytes
	}
	var list []api.Range
	for _, piece := range found {
		a, b := piece[1], piece[2]
		if a != "" && b != "" && bigOf(a).Cmp(bigOf(b)) > 0 {
			return nil, api.ErrBytes
		}
		if from, last := bytesByWords(a, b, size); from.Cmp(last) <= 0 {
			list = append(list, to(int(from.Int64()), int(last.Int64())))
		}
	}
	switch {
	case len(found) > 8:
		return nil, api.ErrMany
	case len(list) == 0:
		return nil, api.ErrEmpty
	}
	return list, api.OK
}

// hold holds Parse against the plain reading; one fault of a test is enough.
func (r reading) hold(t *testing.T, value string, size int) {
	t.Helper()
	if t.Failed() {
		return
	}
	if list, err := r.parse(value, size); err != api.OK {
		wantError(t, value, size, err)
	} else {
		wantRanges(t, value, size, list...)
	}
}

// The chapter's examples.

func TestExamplesOfRanges(t *testing.T) {
	wantRanges(t, "bytes=0-4", 10, to(0, 4))
	wantRanges(t, "bytes=5-", 10, to(5, 9))
	wantRanges(t, "bytes=-3", 10, to(7, 9))
	wantRanges(t, "bytes=-30", 10, to(0, 9))
	wantRanges(t, "bytes=0-0, 20-30 ,-1", 10, to(0, 0), to(9, 9))
	wantError(t, "bytes=10-", 10, api.ErrEmpty)
	wantError(t, "bytes=-0", 10, api.ErrEmpty)
	wantError(t, "bytes=0-", 0, api.ErrEmpty)
	for _, value := range []string{"bytes=5-4", "bytes=", "bytes=a", "byte=0-1", "bytes=--1"} {
		wantError(t, value, 10, api.ErrBytes)
	}
	wantTold(t, to(0, 4), 10, "bytes 0-4/10")
	wantUnmet(t, 10, "bytes */10")
}

// P16.1

func TestMost(t *testing.T) {
	if Most != 8 {
		t.Error(Most)
	}
}

func TestParseOfOnePiece(t *testing.T) {
	wantRanges(t, "bytes=0-0", 1, to(0, 0))
	wantRanges(t, "bytes=0-", 1, to(0, 0))
	wantRanges(t, "bytes=-1", 1, to(0, 0))
	wantRanges(t, "bytes=9-9", 10, to(9, 9))
	wantRanges(t, "bytes=9-10", 10, to(9, 9))
	wantRanges(t, "bytes=9-", 10, to(9, 9))
	wantRanges(t, "bytes=8-8", 10, to(8, 8))
	wantRanges(t, "bytes=0-9", 10, to(0, 9))
	wantRanges(t, "bytes=0-8", 10, to(0, 8))
	wantRanges(t, "bytes=-9", 10, to(1, 9))
	wantRanges(t, "bytes=-10", 10, to(0, 9))
	wantRanges(t, "bytes=-11", 10, to(0, 9))
	for _, value := range []string{"bytes=10-10", "bytes=10-", "bytes=11-", "bytes=11-12", "bytes=-0", "bytes=-00"} {
		wantError(t, value, 10, api.ErrEmpty)
	}
	for _, value := range []string{"bytes=0-0", "bytes=0-", "bytes=-0", "bytes=-1", "bytes=1-2"} {
		wantError(t, value, 0, api.ErrEmpty)
	}
}

func TestParseOfDigits(t *testing.T) {
	nines := strings.Repeat("9", 15)
	noughts := strings.Repeat("0", 15)
	wantRanges(t, "bytes=0-"+nines, 10, to(0, 9))
	wantRanges(t, "bytes=-"+nines, 10, to(0, 9))
	wantRanges(t, "bytes="+noughts+"-"+noughts, 10, to(0, 0))
	wantRanges(t, "bytes="+noughts+"-", 10, to(0, 9))
	wantRanges(t, "bytes=-"+noughts[1:]+"2", 10, to(8, 9))
	wantRanges(t, "bytes=010-0012", 100, to(10, 12))
	wantRanges(t, "bytes="+nines+"-"+nines, math.MaxInt, to(999999999999999, 999999999999999))
	wantRanges(t, "bytes="+nines+"-", 1000000000000000, to(999999999999999, 999999999999999))
	wantRanges(t, "bytes=-"+nines, 1000000000000000, to(1, 999999999999999))
	wantError(t, "bytes=-"+noughts, 10, api.ErrEmpty)
	wantError(t, "bytes="+nines+"-", 10, api.ErrEmpty)
	wantError(t, "bytes="+nines+"-", 999999999999999, api.ErrEmpty)
	for _, long := range []string{"0" + nines, nines + "9", noughts + "0", noughts + "1", "1" + noughts, strings.Repeat("9", 19), strings.Repeat("1", 100)} {
		for _, value := range []string{"bytes=" + long + "-", "bytes=-" + long, "bytes=0-" + long, "bytes=" + long + "-" + nines, "bytes=" + long + "-" + long} {
			wantError(t, value, math.MaxInt, api.ErrBytes)
		}
	}
}

func TestParseOfSizes(t *testing.T) {
	for _, size := range []int{-1, -10, math.MinInt} {
		for _, value := range []string{"bytes=0-4", "bytes=", "", "bytes=" + strings.Repeat("0-0,", 9), "bytes=10-"} {
			wantError(t, value, size, api.ErrArg)
		}
	}
	wantRanges(t, "bytes=0-", math.MaxInt, to(0, math.MaxInt-1))
	wantRanges(t, "bytes=-1", math.MaxInt, to(math.MaxInt-1, math.MaxInt-1))
	r := newReading()
	for _, size := range []int{math.MinInt, -1, 0, 1, 2, 9, 10, 11, 999999999999998, 999999999999999, 1000000000000000, math.MaxInt - 1, math.MaxInt} {
		for _, value := range []string{"bytes=0-0", "bytes=1-", "bytes=-1", "bytes=-10", "bytes=9-10,-0", "bytes=0-999999999999999", "bytes=999999999999999-", "bytes=-999999999999999"} {
			r.hold(t, value, size)
		}
	}
}

func TestParseOfSeveralPieces(t *testing.T) {
	// In their order, neither sorted nor joined, and each as often as it stands there.
	wantRanges(t, "bytes=5-6,0-1,5-6,4-9,-1", 10, to(5, 6), to(0, 1), to(5, 6), to(4, 9), to(9, 9))
	wantRanges(t, "bytes=10-,1-,-0,20-30", 10, to(1, 9))
	wantError(t, "bytes=10-,-0,20-30", 10, api.ErrEmpty)
	// Pieces with nothing in them do not count; blanks may stand around each.
	wantRanges(t, "bytes=,, 0-1 ,\t,\t2-3\t ,", 10, to(0, 1), to(2, 3))
	wantRanges(t, "bytes= 0-1", 10, to(0, 1))
	wantRanges(t, "bytes=0-1\t", 10, to(0, 1))
	for _, value := range []string{"bytes=,", "bytes= ", "bytes=\t", "bytes=,,", "bytes= , \t,"} {
		wantError(t, value, 10, api.ErrBytes)
	}
}

func TestParseOfNoLists(t *testing.T) {
	for _, value := range []string{
		"", "bytes", "=", "=0-1", "0-1", "bytes0-1", " bytes=0-1", "bytes =0-1", "Bytes=0-1", "BYTES=0-1", "bytes==0-1", "bytes:0-1",
		"bytes=bytes=0-1", "bits=0-1", "xbytes=0-1", "bytes=-", "bytes=1", "bytes=1-2-3", "bytes=1--2", "bytes=-1-", "bytes=-1-2",
		"bytes=1 -2", "bytes=1- 2", "bytes=1 - 2", "bytes=- 1", "bytes=+1-2", "bytes=1-+2", "bytes=0x1-2", "bytes=1.0-2", "bytes=1_0-20",
		"bytes=1-2 3-4", "bytes=1-2;3-4", "bytes=1-2\n", "bytes=\r1-2", "bytes=1-2\x00", "bytes=*", "bytes=*/10", `bytes="0-1"`, `bytes="0-1,2-3"`,
		`bytes=0-1,"`, `bytes=",0-1`, `bytes=0-1,""`, `bytes=\,0-1`, "bytes=0-1,x", "bytes=0-1,,9-8", "bytes=0-1,-", "bytes=٠-١", "bytes=0‐1",
		"bytes=0-1\xA0", "bytes=2-1", "bytes=02-1", "bytes=100-99", "bytes=999999999999999-999999999999998",
	} {
		wantError(t, value, 10, api.ErrBytes)
	}
}

func TestParseOfManyPieces(t *testing.T) {
	one := to(1, 1)
	wantRanges(t, "bytes="+strings.Repeat("1-1,", 7), 10, slices.Repeat([]api.Range{one}, 7)...)
	wantRanges(t, "bytes="+strings.Repeat("1-1,", 8), 10, slices.Repeat([]api.Range{one}, 8)...)
	wantError(t, "bytes="+strings.Repeat("1-1,", 9), 10, api.ErrMany)
	wantError(t, "bytes="+strings.Repeat("1-1,", 100000), 10, api.ErrMany)
	// Pieces count that are not within the body, those with nothing in them do not.
	wantError(t, "bytes="+strings.Repeat("10-,", 8), 10, api.ErrEmpty)
	wantError(t, "bytes="+strings.Repeat("10-,", 9), 10, api.ErrMany)
	wantError(t, "bytes=1-1,"+strings.Repeat("-0,", 8), 10, api.ErrMany)
	wantError(t, "bytes="+strings.Repeat("0-0,", 9), 0, api.ErrMany)
	wantRanges(t, "bytes="+strings.Repeat(" ,", 100000)+"1-1"+strings.Repeat(",", 100000), 10, one)
	wantRanges(t, "bytes=1-1,"+strings.Repeat("10-,", 7), 10, one)
	// That it is no list comes ahead of that there are too many.
	wantError(t, "bytes="+strings.Repeat("1-1,", 9)+"x", 10, api.ErrBytes)
	wantError(t, "bytes="+strings.Repeat("1-1,", 9)+"2-1", 10, api.ErrBytes)
	wantError(t, "bytes="+strings.Repeat("10-,", 9)+"-", 10, api.ErrBytes)
}

func TestParseOfEachByte(t *testing.T) {
	r := newReading()
	for c := range 256 {
		for _, frame := range []string{"?", "?bytes=0-1", "bytes?=0-1", "bytes=?", "bytes=?0-1", "bytes=0?-1", "bytes=0-?1", "bytes=0-1?", "bytes=0?1", "bytes?0-1", "bytes=0-1?2-3", "?ytes=0-1", "bytes=?-9", "bytes=-?", "bytes=1-?"} {
			r.hold(t, strings.Replace(frame, "?", oneByte(c), 1), 10)
		}
	}
}

func TestParseOfEachShortText(t *testing.T) {
	r := newReading()
	eachText([]string{"0", "1", "2", "-", ",", " ", "\t", "x", `"`}, 6, func(s string) { r.hold(t, "bytes="+s, 2) })
	eachText([]string{"bytes", "=", "-", "1", ","}, 6, func(s string) { r.hold(t, s, 2) })
}

func TestParseOfScatteredTexts(t *testing.T) {
	r := newReading()
	next := numbers(16)
	pieces := []string{"0-", "-1", "3-7", "007-8", "9-9", "10-", "0-100", "-100", "-0", "5-5", ",", ", ", " ,\t", ",", ",", ",,"}
	faults := []string{"4-3", "-", "x", "1", `"`, "--2", "1-2-3", "0000000000000001-", "\n"}
	for range 200000 {
		value := "bytes="
		for range next(24) {
			value += pieces[next(len(pieces))]
			if next(3) > 0 {
				value += ","
			}
			if next(60) == 0 {
				value += faults[next(len(faults))]
			}
		}
		r.hold(t, value, next(14))
	}
}

func TestParseAnswersNewMemory(t *testing.T) {
	list, _ := Parse("bytes=0-1,2-3", 10)
	again, _ := Parse("bytes=0-1,2-3", 10)
	list[0], list[1] = to(7, 7), to(8, 8)
	if !slices.Equal(again, []api.Range{to(0, 1), to(2, 3)}) {
		t.Error(again)
	}
	wantRanges(t, "bytes=0-1,2-3", 10, to(0, 1), to(2, 3))
}

// P16.2

func wantTold(t *testing.T, r api.Range, size int, want string) {
	t.Helper()
	if s := Told(r, size); s != want {
		t.Errorf("Told(%v, %d) = %q, not %q", r, size, s, want)
	}
}

func wantUnmet(t *testing.T, size int, want string) {
	t.Helper()
	if s := Unmet(size); s != want {
		t.Errorf("Unmet(%d) = %q, not %q", size, s, want)
	}
}

func TestTold(t *testing.T) {
	wantTold(t, to(0, 0), 1, "bytes 0-0/1")
	wantTold(t, to(12, 345), 6789, "bytes 12-345/6789")
	wantTold(t, to(100, 200), 1000, "bytes 100-200/1000")
	wantTold(t, to(0, math.MaxInt-1), math.MaxInt, "bytes 0-9223372036854775806/9223372036854775807")
	next := numbers(162)
	for range 1000 {
		from, last, size := next(1<<next(31)), next(1<<next(31)), next(1<<next(31))
		wantTold(t, to(from, last), size, "bytes "+strconv.Itoa(from)+"-"+strconv.Itoa(last)+"/"+strconv.Itoa(size))
		wantUnmet(t, size, "bytes */"+strconv.Itoa(size))
	}
}

func TestUnmet(t *testing.T) {
	wantUnmet(t, 0, "bytes */0")
	wantUnmet(t, 7, "bytes */7")
	wantUnmet(t, math.MaxInt, "bytes */9223372036854775807")
}

func TestToldOfStrangeNumbersEnds(t *testing.T) {
	for _, n := range []int{math.MinInt, -1} {
		if Told(to(n, n), n) == "" || Unmet(n) == "" {
			t.Error(n)
		}
	}
}

// P16.5

func TestParseAnswersWhatLiesWithin(t *testing.T) {
	next := numbers(165)
	for range 100000 {
		size := next(1 << next(20))
		a := next(1 << next(20))
		b := a + next(1<<next(20))
		value := fmt.Sprintf("bytes=%d-%d", a, b)
		switch {
		case b < size:
			wantRanges(t, value, size, to(a, b))
		case a < size:
			wantRanges(t, value, size, to(a, size-1))
		default:
			wantError(t, value, size, api.ErrEmpty)
		}
		list, _ := Parse(fmt.Sprintf("bytes=%d-%d, %d-, -%d, -%d", a, b, b, a, b), size)
		for _, r := range list {
			if r.From < 0 || r.To < r.From || size <= r.To {
				t.Fatal(a, b, size, list)
			}
		}
	}
}
