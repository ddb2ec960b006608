package ranges

import (
	"bytes"
	"io"
	"math"
	"mime/multipart"
	"slices"
	"strconv"
	"strings"
	"testing"

	"ostler/api"
)

func wantLine(t *testing.T, body, want string) {
	t.Helper()
	if line := Line(body); line != want {
		t.Errorf("Line(%.80q) = %q, not %q", body, line, want)
	}
}

func wantParts(t *testing.T, body, kind, line, want string, list ...api.Range) {
	t.Helper()
	if s, err := Parts(body, kind, line, list...); s != want || err != api.OK {
		t.Errorf("Parts(%.40q, %q, %q, %v) = %.400q, %d, not %.400q", body, kind, line, list, s, int(err), want)
	}
}

func wantNoParts(t *testing.T, body string, list ...api.Range) {
	t.Helper()
	if s, err := Parts(body, "text/plain", "part0", list...); s != "" || err != api.ErrArg {
		t.Errorf("Parts(%.40q, .., %v) = %.80q, %d, not ErrArg", body, list, s, int(err))
	}
}

// lineByWords looks for each number on its own.
func lineByWords(body string) string {
	for n := 0; ; n++ {
		if line := "part" + strconv.Itoa(n); !strings.Contains(body, line) {
			return line
		}
	}
}

func partsByWords(body, kind, line string, list []api.Range) string {
	s := ""
	for _, r := range list {
		s += "--" + line + "\x0D\x0A"
		s += "Content-Type: " + kind + "\x0D\x0A"
		s += "Content-Range: " + Told(r, len(body)) + "\x0D\x0A"
		s += "\x0D\x0A"
		for i := r.From; i <= r.To; i++ {
			s += body[i : i+1]
		}
		s += "\x0D\x0A"
	}
	return s + "--" + line + "--\x0D\x0A"
}

// The chapter's examples.

func TestExamplesOfLines(t *testing.T) {
	wantLine(t, "xpart0part1y", "part2")
	wantLine(t, "", "part0")
}

// P16.3

func TestLine(t *testing.T) {
	wantLine(t, "part", "part0")
	wantLine(t, "part 0", "part0")
	wantLine(t, "Part0PART0", "part0")
	wantLine(t, "part1", "part0")
	wantLine(t, "part0", "part1")
	wantLine(t, "part0part2", "part1")
	wantLine(t, "part2part0", "part1")
	wantLine(t, "part1part0", "part2")
	wantLine(t, "part0part0part0", "part1")
	wantLine(t, "papart0", "part1")
	wantLine(t, "partpart0", "part1")
	wantLine(t, "part0x1", "part1")
	// It stands in the body also ahead of other digits, but a nought ahead of another one is no number's.
	wantLine(t, "part00", "part1")
	wantLine(t, "part01", "part1")
	wantLine(t, "part0 part17", "part2")
	wantLine(t, "part0 part100", "part2")
	wantLine(t, "part0 part1 part2 part3 part4 part5 part6 part7 part8 part9", "part10")
	wantLine(t, "part0 part10 part2 part3 part4 part5 part6 part7 part8 part9", "part11")
	wantLine(t, "part0part19part2part3part4part5part6part7part8part9", "part10")
	wantLine(t, "part0 part"+strings.Repeat("1", 100000), "part2")
	// 2^63 - 1, 2^65 and 2^65 + 1: no number of 64 bits is read out of more digits than it has.
	wantLine(t, "part9223372036854775807 part36893488147419103232", "part0")
	wantLine(t, "part0 part36893488147419103233", "part1")
	wantLine(t, "part"+strings.Repeat("0", 100), "part1")
}

// A number may be as great as the body is long, or nearly so.
func TestLineOfBodiesThatHoldMostNumbers(t *testing.T) {
	for most := range 1200 {
		var up, down, short strings.Builder
		for n := range most {
			up.WriteString("part" + strconv.Itoa(n))
			down.WriteString("part" + strconv.Itoa(most-1-n))
			// Those that others begin with are left out.
			if n == 0 || n*10 >= most {
				short.WriteString("part" + strconv.Itoa(n))
			}
		}
		for _, body := range []string{up.String(), down.String(), short.String()} {
			wantLine(t, body, "part"+strconv.Itoa(most))
		}
	}
}

func TestLineOfEachShortText(t *testing.T) {
	eachText([]string{"part", "0", "1", "2", "x", "par"}, 7, func(s string) {
		if !t.Failed() {
			wantLine(t, s, lineByWords(s))
		}
	})
}

func TestLineOfScatteredTexts(t *testing.T) {
	next := numbers(163)
	for range 5000 {
		var body strings.Builder
		most := 1 + next(40)
		for range next(400) {
			body.WriteString([]string{"part", "part", "part", "part", "par", "", "\xFF"}[next(7)])
			body.WriteString(strconv.Itoa(next(most)))
		}
		if !t.Failed() {
			wantLine(t, body.String(), lineByWords(body.String()))
		}
	}
}

func TestLineOfAGreatBody(t *testing.T) {
	var body strings.Builder
	for n := range 300000 {
		body.WriteString("part" + strconv.Itoa(299999-n))
	}
	wantLine(t, body.String(), "part300000")
	wantLine(t, strings.Repeat("p", 1<<22), "part0")
	wantLine(t, strings.Repeat("part0", 1<<20), "part1")
}

// P16.4

func TestParts(t *testing.T) {
	wantParts(t, "hello", "text/plain", "part0", "--part0\r\nContent-Type: text/plain\r\nContent-Range: bytes 1-3/5\r\n\r\nell\r\n--part0--\r\n", to(1, 3))
	wantParts(t, "hello", "t", "x", "--x\r\nContent-Type: t\r\nContent-Range: bytes 0-4/5\r\n\r\nhello\r\n"+
		"--x\r\nContent-Type: t\r\nContent-Range: bytes 4-4/5\r\n\r\no\r\n"+
		"--x\r\nContent-Type: t\r\nContent-Range: bytes 0-0/5\r\n\r\nh\r\n"+
		"--x\r\nContent-Type: t\r\nContent-Range: bytes 0-0/5\r\n\r\nh\r\n--x--\r\n", to(0, 4), to(4, 4), to(0, 0), to(0, 0))
	// The kind, the line and the body are what they are: any bytes, or none.
	wantParts(t, "\r\n", "", "", "--\r\nContent-Type: \r\nContent-Range: bytes 0-1/2\r\n\r\n\r\n\r\n----\r\n", to(0, 1))
	wantParts(t, "\xFFa\x00", "\x80", "%d\n", "--%d\n\r\nContent-Type: \x80\r\nContent-Range: bytes 0-2/3\r\n\r\n\xFFa\x00\r\n--%d\n--\r\n", to(0, 2))
}

func TestPartsOfRangesBeyondTheBody(t *testing.T) {
	wantNoParts(t, "hello")
	wantNoParts(t, "hello", []api.Range{}...)
	wantNoParts(t, "")
	for _, r := range []api.Range{to(0, 5), to(-1, 0), to(2, 1), to(5, 5), to(1, 0), to(0, -1), to(-1, -1), to(5, 4), to(math.MinInt, 4), to(0, math.MaxInt), to(math.MaxInt, math.MaxInt), to(math.MinInt, math.MaxInt), to(math.MaxInt, math.MinInt), to(math.MinInt, math.MinInt)} {
		wantNoParts(t, "hello", r)
		wantNoParts(t, "hello", to(0, 4), r)
		wantNoParts(t, "hello", r, to(0, 4))
		wantNoParts(t, "hello", to(0, 0), r, to(4, 4))
		wantNoParts(t, "", r)
	}
	wantNoParts(t, "", to(0, 0))
	for from := -3; from < 9; from++ {
		for last := -3; last < 9; last++ {
			if r := to(from, last); 0 <= from && from <= last && last < 5 {
				wantParts(t, "hello", "t", "x", partsByWords("hello", "t", "x", []api.Range{r}), r)
			} else {
				wantNoParts(t, "hello", r)
			}
		}
	}
}

// More ranges than Parse answers are none too many here.
func TestPartsOfManyRanges(t *testing.T) {
	next := numbers(164)
	for range 500 {
		body := strings.Repeat("part0\r\n--x\xFF", 1+next(20))
		var list []api.Range
		for range 1 + next(30) {
			from := next(len(body))
			list = append(list, to(from, from+next(len(body)-from)))
		}
		kept := slices.Clone(list)
		line := Line(body)
		wantParts(t, body, "text/html", line, partsByWords(body, "text/html", line, list), list...)
		if !slices.Equal(list, kept) {
			t.Fatal("the list is written into")
		}
	}
}

func TestPartsOfAGreatBody(t *testing.T) {
	body := strings.Repeat("x", 1<<20)
	s, err := Parts(body, "t", "x", slices.Repeat([]api.Range{to(0, len(body)-1)}, 8)...)
	if err != api.OK || strings.Count(s, body) != 8 {
		t.Error(len(s), err)
	}
}

// P16.5: what a reader of such bodies finds in them is the bytes of the ranges, as Line stands in none of them.
func TestPartsAreReadBack(t *testing.T) {
	next := numbers(1605)
	for range 2000 {
		var text bytes.Buffer
		for range 1 + next(60) {
			text.WriteString([]string{"--part", "part", "\r\n", "\r\n--", "0", "1", "\r\n--part0\r\n", "\r\n--part1--\r\n", "x"}[next(9)])
		}
		body := text.String()
		line := Line(body)
		if strings.Contains(body, line) {
			t.Fatalf("%q stands in %q", line, body)
		}
		a, b := next(len(body)), next(len(body))
		list, err := Parse("bytes="+strconv.Itoa(min(a, b))+"-"+strconv.Itoa(max(a, b))+", -"+strconv.Itoa(b)+","+strconv.Itoa(a)+"-", len(body))
		if err != api.OK {
			t.Fatal(err)
		}
		s, err := Parts(body, "text/plain", line, list...)
		if err != api.OK {
			t.Fatal(err)
		}
		wantReadBack(t, s, line, body, list)
	}
}

func wantReadBack(t *testing.T, s, line, body string, list []api.Range) {
	t.Helper()
	reader := multipart.NewReader(strings.NewReader(s), line)
	for _, r := range list {
		part, err := reader.NextRawPart()
		if err != nil {
			t.Fatal(err)
		}
		cut, err := io.ReadAll(part)
		if err != nil || string(cut) != body[r.From:r.To+1] {
			t.Fatalf("%v: %q is read as %q, %v", r, body[r.From:r.To+1], cut, err)
		}
		if kind, told := part.Header.Get("Content-Type"), part.Header.Get("Content-Range"); kind != "text/plain" || told != Told(r, len(body)) {
			t.Fatal(kind, told)
		}
	}
	if _, err := reader.NextRawPart(); err != io.EOF {
		t.Fatal(err)
	}
}
