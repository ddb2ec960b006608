package tags

import (
	"math"
	"slices"
	"strings"
	"testing"

	"ostler/api"
)

const (
	at         = "Sun, 06 Nov 1994 08:49:37 GMT" // the time of the example
	before     = "Sun, 06 Nov 1994 08:49:36 GMT"
	after      = "Sun, 06 Nov 1994 08:49:38 GMT"
	first1970  = "Thu, 01 Jan 1970 00:00:00 GMT"
	last9999   = "Fri, 31 Dec 9999 23:59:59 GMT"
	lastSecond = 253402300799
)

// of is fields, each a name and a value.
func of(texts ...string) []api.Field {
	var fields []api.Field
	for i := 0; i+1 < len(texts); i += 2 {
		fields = append(fields, api.Field{Name: texts[i], Value: texts[i+1]})
	}
	return fields
}

func wantDecide(t *testing.T, method string, fields []api.Field, f api.File, there bool, want int) {
	t.Helper()
	if status := Decide(method, fields, f, there); status != want {
		t.Errorf("Decide(%q, %.200q, %d-%d at %d, %v) = %d, not %d", method, fields, f.Seq, len(f.Body), f.Time, there, status, want)
	}
}

func wantSame(t *testing.T, fields []api.Field, f api.File, want bool) {
	t.Helper()
	if is := Same(fields, f); is != want {
		t.Errorf("Same(%.200q, %d-%d at %d) = %v", fields, f.Seq, len(f.Body), f.Time, is)
	}
}

// The chapter's examples.

func TestExamplesOfConditions(t *testing.T) {
	f := example()
	wantDecide(t, "GET", of("if-none-match", `"3-5"`), f, true, 304)
	wantDecide(t, "PUT", of("if-none-match", `"3-5"`), f, true, 412)
	wantDecide(t, "GET", of("if-none-match", `W/"3-5"`), f, true, 304)
	wantDecide(t, "GET", of("if-match", `W/"3-5"`), f, true, 412)
	wantDecide(t, "GET", of("if-match", "*"), api.File{}, false, 412)
	wantDecide(t, "GET", of("if-modified-since", at), f, true, 304)
	wantDecide(t, "GET", of("if-modified-since", before), f, true, 0)
	wantDecide(t, "GET", of("if-none-match", `"x"`, "if-modified-since", at), f, true, 0)
	wantSame(t, of("if-range", `W/"3-5"`), f, false)
	wantSame(t, of("if-range", `"3-5"`), f, true)
	wantSame(t, of("if-range", at), f, true)
}

// tagged is fields that name tags, and how those are alike the tag "3-5".
type tagged struct {
	values             []string
	star, strong, weak bool
}

func eachTagged() []tagged {
	return []tagged{
		{values: nil},
		{values: []string{"*"}, star: true},
		{values: []string{"\t* "}, star: true},
		{values: []string{`"3-5"`}, strong: true, weak: true},
		{values: []string{`W/"3-5"`}, weak: true},
		{values: []string{`"x"`}},
		{values: []string{`"3-4"`}},
		{values: []string{`"3-55"`}},
		{values: []string{`"3-5,"`}},
		{values: []string{`"x", W/"y" ,"3-5",`}, strong: true, weak: true},
		{values: []string{`W/"3-5", "x"`}, weak: true},
		{values: []string{`"x"`, `"3-5"`}, strong: true, weak: true},
		{values: []string{`"3-5"`, "", `"x"`}, strong: true, weak: true},
		{values: []string{`W/"x"`, `W/"3-5"`}, weak: true},
		// No lists.
		{values: []string{""}},
		{values: []string{"", ""}},
		{values: []string{"3-5"}},
		{values: []string{`w/"3-5"`}},
		{values: []string{`"3-5" "x"`}},
		{values: []string{`"3-5"`, "x"}},
		{values: []string{`"3-5"`, "*"}},
		{values: []string{"*", "*"}},
		{values: []string{`"3-`, `5"`}},
	}
}

// dated is fields that name a time, and whether it is a date and ahead of the example's.
type dated struct {
	values          []string
	isDate, isAhead bool
}

func eachDated() []dated {
	return []dated{
		{values: nil},
		{values: []string{before}, isDate: true, isAhead: true},
		{values: []string{first1970}, isDate: true, isAhead: true},
		{values: []string{at}, isDate: true},
		{values: []string{after}, isDate: true},
		{values: []string{last9999}, isDate: true},
		// No dates.
		{values: []string{""}},
		{values: []string{"784111776"}},
		{values: []string{before + " "}},
		{values: []string{" " + at}},
		{values: []string{"Mon, 06 Nov 1994 08:49:37 GMT"}},
		{values: []string{before, before}},
		{values: []string{at, at}},
		{values: []string{at, ""}},
		{values: []string{"", at}},
		{values: []string{"Sun", "06 Nov 1994 08:49:36 GMT"}},
		{values: []string{"Sun", "06 Nov 1994 08:49:37 GMT"}},
	}
}

// decideByWords is the plain reading of P15.4, of the example's file.
func decideByWords(reads, there bool, match tagged, unmodified dated, noneMatch tagged, modified dated) int {
	if match.values != nil {
		if !there || !match.star && !match.strong {
			return 412
		}
	} else if there && unmodified.isDate && unmodified.isAhead {
		return 412
	}
	if noneMatch.values != nil {
		fails := there && (noneMatch.star || noneMatch.weak)
		if fails && reads {
			return 304
		}
		if fails {
			return 412
		}
		return 0
	}
	if there && reads && modified.isDate && !modified.isAhead {
		return 304
	}
	return 0
}

// add is the fields, and one more for each value.
func add(fields []api.Field, name string, values []string) []api.Field {
	for _, value := range values {
		fields = append(fields, api.Field{Name: name, Value: value})
	}
	return fields
}

// P15.4

func TestDecideOfAllConditions(t *testing.T) {
	f := example()
	for _, match := range eachTagged() {
		for _, unmodified := range eachDated() {
			for _, noneMatch := range eachTagged() {
				for _, modified := range eachDated() {
					if t.Failed() {
						return
					}
					fields := add(nil, "if-match", match.values)
					fields = add(fields, "if-unmodified-since", unmodified.values)
					fields = add(fields, "if-none-match", noneMatch.values)
					fields = add(fields, "if-modified-since", modified.values)
					wantDecide(t, "GET", fields, f, true, decideByWords(true, true, match, unmodified, noneMatch, modified))
					wantDecide(t, "PUT", fields, f, true, decideByWords(false, true, match, unmodified, noneMatch, modified))
					// A file that is not there does not count, whatever it is.
					wantDecide(t, "GET", fields, f, false, decideByWords(true, false, match, unmodified, noneMatch, modified))
				}
			}
		}
	}
}

func TestDecideOfMethods(t *testing.T) {
	f := example()
	for _, method := range []string{"GET", "HEAD"} {
		wantDecide(t, method, of("if-none-match", "*"), f, true, 304)
		wantDecide(t, method, of("if-none-match", `W/"3-5"`), f, true, 304)
		wantDecide(t, method, of("if-modified-since", at), f, true, 304)
		wantDecide(t, method, of("if-match", `"x"`), f, true, 412)
		wantDecide(t, method, of("if-unmodified-since", before), f, true, 412)
	}
	for _, method := range []string{"", "get", "Get", "GET ", "HEADS", "head", "POST", "PUT", "DELETE", "OPTIONS"} {
		wantDecide(t, method, of("if-none-match", "*"), f, true, 412)
		wantDecide(t, method, of("if-none-match", `W/"3-5"`), f, true, 412)
		wantDecide(t, method, of("if-modified-since", at), f, true, 0)
		wantDecide(t, method, of("if-match", `"x"`), f, true, 412)
		wantDecide(t, method, of("if-unmodified-since", before), f, true, 412)
	}
}

func TestDecideOfTimes(t *testing.T) {
	for _, x := range []struct {
		time    int
		said    string
		isAbove bool
	}{
		{784111776, at, false},
		{784111777, at, false},
		{784111778, at, true},
		{-1, first1970, false},
		{0, first1970, false},
		{1, first1970, true},
		{math.MinInt64, first1970, false},
		{math.MaxInt64, first1970, true},
		{lastSecond - 1, last9999, false},
		{lastSecond, last9999, false},
		{lastSecond + 1, last9999, true},
		{math.MinInt64, last9999, false},
		{math.MaxInt64, last9999, true},
	} {
		f := api.File{Time: x.time}
		modified, unmodified := 304, 0
		if x.isAbove {
			modified, unmodified = 0, 412
		}
		wantDecide(t, "GET", of("if-modified-since", x.said), f, true, modified)
		wantDecide(t, "GET", of("if-unmodified-since", x.said), f, true, unmodified)
		wantDecide(t, "GET", of("if-modified-since", x.said), f, false, 0)
		wantDecide(t, "GET", of("if-unmodified-since", x.said), f, false, 0)
	}
}

func TestDecideByWhatComesFirst(t *testing.T) {
	f := example()
	// A condition that fails goes ahead of the later ones.
	wantDecide(t, "GET", of("if-none-match", "*", "if-match", `"x"`), f, true, 412)
	wantDecide(t, "GET", of("if-none-match", "*", "if-unmodified-since", before), f, true, 412)
	wantDecide(t, "GET", of("if-modified-since", at, "if-unmodified-since", before), f, true, 412)
	// One that holds does not: the later ones are asked.
	wantDecide(t, "GET", of("if-match", "*", "if-none-match", "*"), f, true, 304)
	wantDecide(t, "GET", of("if-match", `"3-5"`, "if-modified-since", at), f, true, 304)
	wantDecide(t, "GET", of("if-unmodified-since", at, "if-none-match", "*"), f, true, 304)
	wantDecide(t, "GET", of("if-unmodified-since", at, "if-modified-since", at), f, true, 304)
	// A tag goes ahead of a date.
	wantDecide(t, "GET", of("if-unmodified-since", before, "if-match", `"3-5"`), f, true, 0)
	wantDecide(t, "GET", of("if-modified-since", at, "if-none-match", "a"), f, true, 0)
	wantDecide(t, "GET", of("if-unmodified-since", after, "if-match", "a"), f, true, 412)
}

func TestDecideOfScatteredFields(t *testing.T) {
	f := example()
	// The fields of a name are one value in their order, whatever stands between them.
	wantDecide(t, "GET", of("x", "*", "if-match", `"x"`, "y", "", "if-match", `W/"3-5"`, "if-match", `"3-5"`), f, true, 0)
	wantDecide(t, "GET", of("if-none-match", `"x"`, "if-match", "*", "if-none-match", `"3-5"`), f, true, 304)
	wantDecide(t, "GET", of("if-none-match", `"x"`, "host", "h", "if-none-match", `3-5"`), f, true, 0)
	wantDecide(t, "GET", of("if-modified-since", at, "host", "h", "if-modified-since", at), f, true, 0)
}

func TestDecideKnowsFileByItsOwnTag(t *testing.T) {
	for _, f := range []api.File{{}, {Seq: -7, Body: "a"}, {Seq: math.MaxInt64, Body: `"`}, {Seq: 1, Body: strings.Repeat("a", 70000)}} {
		wantDecide(t, "GET", of("if-match", Make(f)), f, true, 0)
		wantDecide(t, "GET", of("if-none-match", Make(f)), f, true, 304)
		wantDecide(t, "GET", of("if-none-match", Make(f)), f, false, 0)
		wantDecide(t, "GET", of("if-match", Make(f)), f, false, 412)
		wantDecide(t, "GET", of("if-match", Make(example())), f, true, 412)
		wantDecide(t, "GET", of("if-none-match", Make(example())), f, true, 0)
	}
}

func TestDecideOfManyFields(t *testing.T) {
	f := example()
	var fields []api.Field
	for range 1 << 17 {
		fields = append(fields, api.Field{Name: "if-match", Value: `W/"3-5"`}, api.Field{Name: "if-range", Value: `"3-5"`})
	}
	wantDecide(t, "GET", fields, f, true, 412)
	wantSame(t, fields, f, false)
	wantDecide(t, "GET", append(fields, of("if-match", `"3-5"`)...), f, true, 0)
}

// P15.5

func TestSame(t *testing.T) {
	f := example()
	for _, x := range []struct {
		values []string
		want   bool
	}{
		{nil, true},
		{[]string{`"3-5"`}, true},
		{[]string{` "3-5"`}, true},
		{[]string{"\"3-5\"\t"}, true},
		{[]string{`W/"3-5"`}, false},
		{[]string{`"x"`}, false},
		{[]string{`"3-4"`}, false},
		{[]string{at}, true},
		{[]string{before}, false},
		{[]string{after}, false},
		{[]string{first1970}, false},
		// Pieces with nothing in them do not count, and the value is that of all fields.
		{[]string{`"3-5",`}, true},
		{[]string{"", `"3-5"`}, true},
		{[]string{`W/"3-5",`}, false},
		{[]string{"Sun", "06 Nov 1994 08:49:37 GMT"}, true},
		// A star, lists of two, and what is neither a list nor a date.
		{[]string{"*"}, false},
		{[]string{`"3-5", "3-5"`}, false},
		{[]string{`"3-5","x"`}, false},
		{[]string{`"3-5"`, `"3-5"`}, false},
		{[]string{`"3-5"`, at}, false},
		{[]string{at, at}, false},
		{[]string{at, ""}, false},
		{[]string{""}, false},
		{[]string{","}, false},
		{[]string{"3-5"}, false},
		{[]string{`"3-5`}, false},
		{[]string{`w/"3-5"`}, false},
		{[]string{" " + at}, false},
		{[]string{at + " "}, false},
		{[]string{"Mon, 06 Nov 1994 08:49:37 GMT"}, false},
		{[]string{"784111777"}, false},
		{[]string{`"` + at + `"`}, false},
	} {
		wantSame(t, add(nil, "if-range", x.values), f, x.want)
		// Other fields do not matter.
		others := add(of("range", "bytes=0-1", "if-match", `"x"`), "if-range", x.values)
		wantSame(t, append(others, of("if-none-match", "*", "if-modified-since", after)...), f, x.want)
	}
}

func TestSameOfFiles(t *testing.T) {
	wantSame(t, of("if-range", first1970), api.File{}, true)
	wantSame(t, of("if-range", first1970), api.File{Time: -1}, false)
	wantSame(t, of("if-range", first1970), api.File{Time: 1}, false)
	wantSame(t, of("if-range", last9999), api.File{Time: lastSecond}, true)
	wantSame(t, of("if-range", last9999), api.File{Time: lastSecond + 1}, false)
	// What is no date is not the second 0 either.
	for _, value := range []string{"", "0", "x", "*", `"`} {
		wantSame(t, of("if-range", value), api.File{}, false)
	}
	for _, f := range []api.File{{}, {Seq: -1, Body: "a"}, {Seq: math.MaxInt64, Time: math.MinInt64}} {
		wantSame(t, nil, f, true)
		wantSame(t, of("if-range", Make(f)), f, true)
		wantSame(t, of("if-range", "W/"+Make(f)), f, false)
		wantSame(t, of("if-range", Make(example())), f, false)
	}
}

// P15.6

func TestWithoutConditions(t *testing.T) {
	others := of("host", "*", "range", "bytes=0-1", "if-range", `"x"`, "etag", `"3-5"`, "last-modified", at, "if", "*", "", "*",
		"if-matc", `"x"`, "if-match-", `"x"`, "if-none", "*", "if-modified", at, "if-unmodified-sinc", before)
	// Names are held in lower case, as a request has them.
	capitals := of("If-Match", `"x"`, "IF-NONE-MATCH", "*", "If-Modified-Since", at, "If-Unmodified-Since", before)
	for _, method := range []string{"GET", "HEAD", "PUT", ""} {
		for _, fields := range [][]api.Field{nil, {}, {{}}, others, capitals} {
			for _, there := range []bool{true, false} {
				wantDecide(t, method, fields, example(), there, 0)
				wantDecide(t, method, fields, api.File{}, there, 0)
				wantDecide(t, method, fields, api.File{Time: math.MaxInt64, Seq: math.MinInt64}, there, 0)
			}
		}
	}
	wantSame(t, of("If-Range", `"x"`, "if-rang", `"x"`, "range", `"x"`), example(), true)
}

// R2

func TestFieldsAreNotWrittenInto(t *testing.T) {
	room := of("if-match", `"3-5"`, "if-range", `"x"`, "if-none-match", `"y"`, "if-modified-since", at, "if-match", `"x"`, "if-range", `"3-5"`)
	kept := slices.Clone(room)
	// What lies behind the length is not read.
	for n := range len(room) + 1 {
		whole := slices.Clone(room[:n])
		for _, method := range []string{"GET", "PUT"} {
			wantDecide(t, method, room[:n], example(), true, Decide(method, whole, example(), true))
		}
		wantSame(t, room[:n], example(), Same(whole, example()))
	}
	if !slices.Equal(room, kept) {
		t.Errorf("the fields are %q", room)
	}
}
