package tags

import (
	"fmt"
	"math"
	"regexp"
	"slices"
	"strconv"
	"strings"
	"testing"

	"ostler/api"
	"ostler/disk"
)

// example is the file of the chapter's examples.
func example() api.File { return api.File{Body: "hello", Time: 784111777, Seq: 3} }

// numbers are some that look scattered, the same ones for the same seed.
func numbers(seed uint64) func(n int) int {
	return func(n int) int {
		seed = seed*6364136223846793005 + 1442695040888963407
		return int(seed>>33) % n
	}
}

// eachText calls a function with each text of some pieces, at most so many of them.
func eachText(pieces []string, most int, do func(s string)) {
	var grow func(s string, left int)
	grow = func(s string, left int) {
		do(s)
		for _, piece := range pieces {
			if left > 0 {
				grow(s+piece, left-1)
			}
		}
	}
	grow("", most)
}

func oneByte(c int) string { return string([]byte{byte(c)}) }

func strong(value string) Tag { return Tag{Value: value} }

func weak(value string) Tag { return Tag{Weak: true, Value: value} }

func wantTags(t *testing.T, value string, want ...Tag) {
	t.Helper()
	if list, star, err := Parse(value); !slices.Equal(list, want) || star || err != api.OK {
		t.Errorf("Parse(%.60q) = %.200q, %v, %d, not %.200q", value, fmt.Sprint(list), star, int(err), fmt.Sprint(want))
	}
}

func wantStar(t *testing.T, value string) {
	t.Helper()
	if list, star, err := Parse(value); len(list) != 0 || !star || err != api.OK {
		t.Errorf("Parse(%.60q) = %.200q, %v, %d, not a star", value, fmt.Sprint(list), star, int(err))
	}
}

func wantNoList(t *testing.T, value string) {
	t.Helper()
	if list, star, err := Parse(value); len(list) != 0 || star || err != api.ErrTag {
		t.Errorf("Parse(%.60q) = %.200q, %v, %d, not ErrTag", value, fmt.Sprint(list), star, int(err))
	}
}

// The plain reading of a list of tags, by expressions. They know runes, so each byte stands as the rune of its number.

const (
	blankByWords = `[ \t]*`
	tagByWords   = `(?:W/)?"[\x{21}\x{23}-\x{7E}\x{80}-\x{FF}]*"`
)

type reading struct{ star, list, tag *regexp.Regexp }

func newReading() reading {
	piece := "(?:" + blankByWords + tagByWords + blankByWords + "|" + blankByWords + ")"
	return reading{
		star: regexp.MustCompile(`^` + blankByWords + `\*` + blankByWords + `$`),
		list: regexp.MustCompile(`^` + piece + `(?:,` + piece + `)*$`),
		tag:  regexp.MustCompile(tagByWords),
	}
}

func runesOfBytes(s string) string {
	var b strings.Builder
	for _, c := range []byte(s) {
		b.WriteRune(rune(c))
	}
	return b.String()
}

func bytesOfRunes(s string) string {
	var b []byte
	for _, r := range s {
		b = append(b, byte(r))
	}
	return string(b)
}

// hold holds Parse against the plain reading; one fault of a test is enough.
func (r reading) hold(t *testing.T, value string) {
	t.Helper()
	if t.Failed() {
		return
	}
	runes := runesOfBytes(value)
	var tags []Tag
	if r.list.MatchString(runes) {
		for _, found := range r.tag.FindAllString(runes, -1) {
			opaque, weak := strings.CutPrefix(bytesOfRunes(found), "W/")
			tags = append(tags, Tag{Weak: weak, Value: opaque})
		}
	}
	switch {
	case r.star.MatchString(runes):
		wantStar(t, value)
	case len(tags) > 0:
		wantTags(t, value, tags...)
	default:
		wantNoList(t, value)
	}
}

// The chapter's examples.

func TestExamplesOfTags(t *testing.T) {
	if s := Make(example()); s != `"3-5"` {
		t.Errorf("Make = %q", s)
	}
	wantTags(t, `"a", W/"b" ,`, strong(`"a"`), weak(`"b"`))
	wantStar(t, "*")
	for _, value := range []string{`"`, "a", "", `*, "a"`} {
		wantNoList(t, value)
	}
}

// P15.1

func TestMake(t *testing.T) {
	for _, x := range []struct {
		seq  int
		body string
		want string
	}{
		{0, "", `"0-0"`},
		{1, "", `"1-0"`},
		{0, "a", `"0-1"`},
		{9, "123456789", `"9-9"`},
		{10, "1234567890", `"10-10"`},
		{12, "\x00\xff\u00e4", `"12-4"`},
		{2, `"`, `"2-1"`},
		{7, strings.Repeat("x", 65536), `"7-65536"`},
		{7, strings.Repeat("x", 65537), `"7-65537"`},
		{math.MaxInt64, "abc", `"9223372036854775807-3"`},
		// Below 0.
		{-1, "abc", `"0-3"`},
		{-3, "hello", `"0-5"`},
		{math.MinInt64, "", `"0-0"`},
	} {
		for _, time := range []int{0, -1, 784111777, math.MaxInt64} {
			f := api.File{Body: x.body, Time: time, Seq: x.seq}
			if s := Make(f); s != x.want {
				t.Errorf("Make of %d, %d bytes = %q, not %q", x.seq, len(x.body), s, x.want)
			}
		}
	}
}

// P15.2

func TestParseOfOneTag(t *testing.T) {
	for _, opaque := range []string{
		`""`, `"a"`, `"3-5"`, `"!"`, `"#"`, `"~"`, `"*"`, `"W/"`, `"'"`, "\"\x80\"", "\"\xff\"", "\"\u00e4\"",
		// A comma is a tag's byte, and so is a backslash, which stands for itself.
		`","`, `"a,b"`, `",a,"`, `"\"`, `"\\"`, `"a\"`,
	} {
		for _, around := range []string{"%", " %", "% ", "\t%\t", " \t %  ", ",%", "%,", ", %", "% ,", ",,%,,", " , \t, % \t,, "} {
			wantTags(t, strings.Replace(around, "%", opaque, 1), strong(opaque))
			wantTags(t, strings.Replace(around, "%", "W/"+opaque, 1), weak(opaque))
		}
	}
}

func TestParseOfSeveralTags(t *testing.T) {
	a, b := strong(`"a"`), weak(`"b"`)
	for _, between := range []string{",", ", ", " ,", " , ", "\t,\t", " \t,\t ", ",,", ", ,", ",\t,,  ,"} {
		wantTags(t, `"a"`+between+`W/"b"`, a, b)
		wantTags(t, `W/"b"`+between+`"a"`, b, a)
		wantTags(t, `"a"`+between+`"a"`, a, a)
		wantTags(t, `"a"`+between+`W/"b"`+between+`"a"`+between, a, b, a)
	}
	// A backslash does not keep a tag from its end.
	wantTags(t, `"a\","b"`, strong(`"a\"`), strong(`"b"`))
	wantTags(t, `"a,", ",b"`, strong(`"a,"`), strong(`",b"`))
}

func TestParseOfStars(t *testing.T) {
	for _, value := range []string{"*", " *", "* ", "\t*", "*\t", " \t * \t "} {
		wantStar(t, value)
	}
	for _, value := range []string{"**", "* *", "*,*", "*,", ",*", "*, ", " ,*", `*"a"`, `"a"*`, `"a",*`, `"a", *`, `*,"a"`, "W/*", "*/*"} {
		wantNoList(t, value)
	}
}

func TestParseOfNoLists(t *testing.T) {
	for _, value := range []string{
		"", " ", "\t", " \t ", ",", ",,", " , ", ", \t,",
		`"`, ` "`, `"a`, `a"`, "a", "3-5", "'a'", `"""`, `"a" "`, `"a","`, `","a"`, `"a`, `"a,b`, `"a", "b`,
		`"a""b"`, `"a" "b"`, "\"a\"\t\"b\"", `"a"W/"b"`, `"a" W/"b"`, `"a"b`, `a"b"`, `"a";"b"`, `"a" x`, `"a", x`, `x, "a"`, `"a", , x`,
		`"a b"`, "\"a\tb\"", `" "`, "\"a\n\"", "\"\x00\"", "\"\x1f\"", "\"\x7f\"",
		`w/"a"`, `W/`, `W`, `W"a"`, `/"a"`, `W/ "a"`, `W /"a"`, `W/a`, `W/W/"a"`, `W//"a"`, `WW/"a"`, `W/"a`, `W/"`, `W\"a"`, `W/,"a"`, `"a",W/`,
		"\"a\"\n", "\n\"a\"", "\"a\"\r\n", "\"a\",\n\"b\"", "\"a\"\x00", "\u00a0\"a\"", "\"a\"\v", "\"a\"\f",
		strings.Repeat(",", 1<<20), strings.Repeat(" ", 1<<20), `"` + strings.Repeat("a", 1<<20), strings.Repeat(`"",`, 1<<16) + `"`,
	} {
		wantNoList(t, value)
	}
}

func TestParseOfEachByte(t *testing.T) {
	words := newReading()
	for c := range 256 {
		b := oneByte(c)
		opaque := `"` + b + `"`
		if c == 0x21 || c >= 0x23 && c <= 0x7E || c >= 0x80 {
			wantTags(t, opaque, strong(opaque))
			wantTags(t, "W/"+opaque, weak(opaque))
		} else {
			wantNoList(t, opaque)
			wantNoList(t, "W/"+opaque)
		}
		for _, around := range []string{"%", `"a%"`, `"%a"`, `%"a"`, `"a"%`, `"a"%"b"`, `"a",%"b"`, `"a"%,"b"`, `W%"a"`, `%/"a"`, `W/%"a"`, `"a%`, `%a"`, "*%", "%*"} {
			words.hold(t, strings.Replace(around, "%", b, 1))
		}
	}
}

func TestParseOfEachShortText(t *testing.T) {
	words := newReading()
	eachText([]string{`"`, ",", " ", "*", "W/", "a", `\`}, 6, func(s string) { words.hold(t, s) })
	eachText([]string{`"a"`, `W/"b"`, ",", "\t", "*", `"`}, 6, func(s string) { words.hold(t, s) })
}

func TestParseOfScatteredTexts(t *testing.T) {
	words := newReading()
	next := numbers(15)
	pieces := []string{`"`, `"`, ",", ", ", " ", "\t", "W/", "w", "/", "*", "a", "\\", "\x80", "\xff", "\x7f", "\x00", `"a"`, `W/"b"`, `, "c,d"`, `,W/""`}
	for range 100000 {
		s := ""
		for range next(12) {
			s += pieces[next(len(pieces))]
		}
		words.hold(t, s)
	}
}

func TestParseOfManyTags(t *testing.T) {
	const many = 1 << 18
	list, star, err := Parse(strings.Repeat(`W/"a" , ,`, many))
	if len(list) != many || star || err != api.OK {
		t.Fatalf("%d tags, %v, %d", len(list), star, int(err))
	}
	for i, tag := range list {
		if tag != weak(`"a"`) {
			t.Fatalf("tag %d is %v", i, tag)
		}
	}
	long := `"` + strings.Repeat("a,", many) + `"`
	wantTags(t, long, strong(long))
}

// R2

func TestParseAnswersNewMemory(t *testing.T) {
	const value = `"a", W/"b"`
	one, _, _ := Parse(value)
	other, _, _ := Parse(value)
	for i := range one {
		one[i] = weak("x")
	}
	_ = append(one, weak("y"))
	if want := []Tag{strong(`"a"`), weak(`"b"`)}; !slices.Equal(other, want) {
		t.Errorf("the other list is %v", other)
	}
	wantTags(t, value, strong(`"a"`), weak(`"b"`))
}

// P15.3, P15.6

func TestStrongAndWeak(t *testing.T) {
	for _, x := range []struct {
		a, b         Tag
		strong, weak bool
	}{
		{strong(`"1"`), strong(`"1"`), true, true},
		{weak(`"1"`), strong(`"1"`), false, true},
		{strong(`"1"`), weak(`"1"`), false, true},
		{weak(`"1"`), weak(`"1"`), false, true},
		{strong(`"1"`), strong(`"2"`), false, false},
		{weak(`"1"`), strong(`"2"`), false, false},
		{weak(`"1"`), weak(`"2"`), false, false},
		{strong(`"a"`), strong(`"A"`), false, false},
		{strong(`"a"`), strong(`"a" `), false, false},
		{strong(`"a"`), strong("a"), false, false},
		{strong(`"a"`), strong(`"aa"`), false, false},
		{Tag{}, Tag{}, true, true},
		{Tag{}, weak(""), false, true},
		{weak(""), weak(""), false, true},
		{Tag{}, strong(`""`), false, false},
	} {
		if is := Strong(x.a, x.b); is != x.strong {
			t.Errorf("Strong(%v, %v) = %v", x.a, x.b, is)
		}
		if is := Weak(x.a, x.b); is != x.weak {
			t.Errorf("Weak(%v, %v) = %v", x.a, x.b, is)
		}
	}
}

func TestStrongAndWeakBothWays(t *testing.T) {
	var all []Tag
	eachText([]string{`"`, "a", "A", " ", "\xff"}, 3, func(s string) { all = append(all, strong(s), weak(s)) })
	for _, a := range all {
		for _, b := range all {
			strongly, weakly := Strong(a, b), Weak(a, b)
			if strongly != Strong(b, a) || weakly != Weak(b, a) || strongly && !weakly {
				t.Fatalf("%v and %v: %v, %v", a, b, strongly, weakly)
			}
			if weakly != (a.Value == b.Value) || strongly != (weakly && !a.Weak && !b.Weak) {
				t.Fatalf("%v and %v: %v, %v", a, b, strongly, weakly)
			}
		}
	}
}

// P15.6

func TestParseOfMake(t *testing.T) {
	for _, seq := range []int{math.MinInt64, -1, 0, 1, 9, 10, 255, 1 << 31, math.MaxInt64} {
		for _, size := range []int{0, 1, 9, 10, 65536} {
			made := Make(api.File{Body: strings.Repeat("a", size), Seq: seq})
			wantTags(t, made, strong(made))
			wantTags(t, "W/"+made+", "+made, weak(made), strong(made))
		}
	}
}

func TestAFileThatChangesHasAnotherTag(t *testing.T) {
	d := disk.New()
	made := map[string]int{}
	for i := range 2000 {
		body := strings.Repeat("a", i%7)
		if i%5 == 4 {
			d.Remove("/a")
		}
		if err := d.Put("/a", body, 7); err != api.OK {
			t.Fatal(err)
		}
		f, _ := d.Snap().Get("/a")
		if before, is := made[Make(f)]; is {
			t.Fatalf("the files %d and %d have the tag %s", before, i, Make(f))
		}
		made[Make(f)] = i
		if Make(f) != `"`+strconv.Itoa(d.Seq())+"-"+strconv.Itoa(len(body))+`"` {
			t.Fatalf("the file %d has the tag %s", i, Make(f))
		}
	}
}
