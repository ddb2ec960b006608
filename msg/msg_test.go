package msg

import (
	"math"
	"regexp"
	"slices"
	"strconv"
	"strings"
	"testing"

	"ostler/api"
)

// of is fields of names and values, one behind the other.
func of(s ...string) []api.Field {
	var fields []api.Field
	for i := 0; i+1 < len(s); i += 2 {
		fields = append(fields, api.Field{Name: s[i], Value: s[i+1]})
	}
	return fields
}

// with is a list and more fields behind it, in memory of their own.
func with(list []api.Field, more ...string) []api.Field { return slices.Concat(list, of(more...)) }

// numbers are some that look scattered, the same ones for the same seed.
func numbers(seed uint64) func(n int) int {
	return func(n int) int {
		seed = seed*6364136223846793005 + 1442695040888963407
		return int(seed>>33) % n
	}
}

// rows are all lists of so many of these fields.
func rows(fields []api.Field, count int, each func([]api.Field)) {
	row := make([]api.Field, count)
	var fill func(int)
	fill = func(i int) {
		if i == count {
			each(row)
			return
		}
		for _, f := range fields {
			row[i] = f
			fill(i + 1)
		}
	}
	fill(0)
}

// texts are all of up to so many of these bytes.
func texts(bytes string, most int, each func(string)) {
	each("")
	if most == 0 {
		return
	}
	for i := range len(bytes) {
		texts(bytes, most-1, func(s string) { each(bytes[i:i+1] + s) })
	}
}

// oneByte is the text of a byte.
func oneByte(c int) string { return string([]byte{byte(c)}) }

// capitals are all the ways to write a name with capitals here and there.
func capitals(name string) []string {
	all := []string{""}
	for i := range len(name) {
		var longer []string
		for _, s := range all {
			longer = append(longer, s+name[i:i+1])
			if c := name[i]; 'a' <= c && c <= 'z' {
				longer = append(longer, s+string([]byte{c - 'a' + 'A'}))
			}
		}
		all = longer
	}
	return all
}

func sameRequest(a, b api.Request) bool {
	return a.Method == b.Method && a.Scheme == b.Scheme && a.Authority == b.Authority && a.Path == b.Path &&
		slices.Equal(a.Fields, b.Fields) && a.Body == b.Body && slices.Equal(a.Trailers, b.Trailers)
}

// The plain reading of the chapter's words, which the calls are held against.

var (
	plainToken   = regexp.MustCompile("^[A-Za-z0-9!#$%&'*+.^_`|~-]+$")
	plainLength  = regexp.MustCompile("^(0|[1-9][0-9]{0,14})$")
	plainCapital = regexp.MustCompile("[A-Z]")
)

var ownOfConnection = []string{"connection", "keep-alive", "proxy-connection", "transfer-encoding", "upgrade"}

var neverTrailers = []string{"host", "te", "trailer", "content-length", "content-type", "content-encoding", "content-range", "authorization", "expect", "cookie", "set-cookie"}

func isToken(s string) bool { return plainToken.MatchString(s) }

func isValue(s string) bool {
	for i := range len(s) {
		c := s[i]
		if c < 0x20 && c != 0x09 || c == 0x7F {
			return false
		}
	}
	return s == strings.Trim(s, " \t")
}

// lower makes capitals small: the names here have no bytes beyond 7F, or they stay as they are.
func lower(s string) string {
	return plainCapital.ReplaceAllStringFunc(s, strings.ToLower)
}

func plainField(f api.Field) bool {
	return isToken(f.Name) && !plainCapital.MatchString(f.Name) && isValue(f.Value) && !slices.Contains(ownOfConnection, f.Name)
}

func lengthByWords(fields []api.Field) (int, bool, api.Errno) {
	var values []string
	for _, f := range fields {
		if lower(f.Name) == "content-length" {
			values = append(values, f.Value)
		}
	}
	if len(values) == 0 {
		return 0, false, api.OK
	}
	for _, v := range values {
		if !plainLength.MatchString(v) || v != values[0] {
			return 0, false, api.ErrLength
		}
	}
	n, _ := strconv.Atoi(values[0])
	return n, true, api.OK
}

func wantLength(t *testing.T, fields []api.Field, want int, wantSaid bool, wantErr api.Errno) {
	t.Helper()
	if n, said, err := Length(fields); n != want || said != wantSaid || err != wantErr {
		t.Errorf("Length(%q) = %d, %v, %d, not %d, %v, %d", fields, n, said, int(err), want, wantSaid, int(wantErr))
	}
}

func wantTrailers(t *testing.T, list []api.Field, want api.Errno) {
	t.Helper()
	if err := Trailers(list); err != want {
		t.Errorf("Trailers(%q) = %d, not %d", list, int(err), int(want))
	}
}

func wantList(t *testing.T, r api.Response, want []api.Field) {
	t.Helper()
	if list := List(r); !slices.Equal(list, want) {
		t.Errorf("List(%v) = %q, not %q", r, list, want)
	}
}

// The chapter's examples, but those of Two and One.

func TestExamples(t *testing.T) {
	if n := Size(of("a", "bc")); n != 35 {
		t.Error(n)
	}
	if !Bound("Upgrade") || Bound("host") {
		t.Error(Bound("Upgrade"), Bound("host"))
	}
	wantLength(t, of("content-length", "12", "Content-Length", "12"), 12, true, api.OK)
	wantLength(t, of("content-length", "+1"), 0, false, api.ErrLength)
	wantList(t, api.Response{Status: 204, Fields: of("ETag", `"a"`, "Connection", "close")}, of(":status", "204", "etag", `"a"`))
}

// P14.1

func TestSize(t *testing.T) {
	for _, c := range []struct {
		fields []api.Field
		want   int
	}{
		{nil, 0},
		{[]api.Field{}, 0},
		{of("", ""), 32},
		{of("", "", "", ""), 64},
		{of("abc", ""), 35},
		{of("", "abcd"), 36},
		{of("a", "bc", "def", "ghij"), 74},
		{of("connection", "close", "connection", "close"), 94},
		// A letter of two bytes counts two.
		{of("\u00e4", "\u00e4\x00"), 37},
		{of(strings.Repeat("n", 70000), strings.Repeat("v", 90000)), 160032},
	} {
		if n := Size(c.fields); n != c.want {
			t.Errorf("Size = %d, not %d", n, c.want)
		}
	}
}

func TestSizeOfManyFields(t *testing.T) {
	fields := make([]api.Field, 100000)
	if n := Size(fields); n != 3200000 {
		t.Error(n)
	}
}

func TestBoundHoweverItsCapitals(t *testing.T) {
	for _, name := range ownOfConnection {
		for _, s := range capitals(name) {
			if !Bound(s) {
				t.Fatalf("Bound(%q) = false", s)
			}
		}
	}
}

func TestBoundOfNoOtherName(t *testing.T) {
	for _, name := range []string{"", "host", "te", "trailer", "expect", "content-length", "proxy-authenticate", "keepalive", "proxy", "transfer", "encoding", ":connection", "\u212aeep-alive", "connect\u0131on"} {
		if Bound(name) {
			t.Errorf("Bound(%q) = true", name)
		}
	}
	for _, name := range ownOfConnection {
		for i := range len(name) {
			wantUnbound(t, name[:i]+name[i+1:])
			for c := range 256 {
				if b := oneByte(c); lower(b) != name[i:i+1] {
					wantUnbound(t, name[:i]+b+name[i+1:])
				}
				wantUnbound(t, name[:i]+oneByte(c)+name[i:])
			}
		}
		wantUnbound(t, name+" ")
		wantUnbound(t, name+name)
	}
}

func wantUnbound(t *testing.T, name string) {
	t.Helper()
	if Bound(name) {
		t.Errorf("Bound(%q) = true", name)
	}
}

func TestStrip(t *testing.T) {
	for _, c := range []struct{ fields, want []api.Field }{
		{nil, nil},
		{of("a", "1"), of("a", "1")},
		{of("connection", "a", "a", "1"), of("a", "1")},
		{of("a", "1", "Upgrade", "h2c"), of("a", "1")},
		// Their names, values and order stay, and what a connection field names stays, too.
		{of("B", " 2\x00", "KEEP-ALIVE", "5", "A", "1", "B", "3", "Transfer-Encoding", "chunked", "", ""), of("B", " 2\x00", "A", "1", "B", "3", "", "")},
		{of("connection", "x", "x", "1", "host", "h", "te", "trailers", ":path", "/"), of("x", "1", "host", "h", "te", "trailers", ":path", "/")},
		{of("connection", "", "keep-alive", "", "proxy-connection", "", "transfer-encoding", "", "upgrade", ""), nil},
	} {
		if rest := Strip(c.fields); !slices.Equal(rest, c.want) {
			t.Errorf("Strip(%q) = %q, not %q", c.fields, rest, c.want)
		}
	}
}

func TestStripOfAllShortLists(t *testing.T) {
	some := of("a", "1", "A", "2", "connection", "a", "Upgrade", "", "", "x")
	for count := range 6 {
		rows(some, count, func(row []api.Field) {
			want := slices.DeleteFunc(slices.Clone(row), func(f api.Field) bool {
				return slices.Contains(ownOfConnection, strings.ToLower(f.Name))
			})
			if rest := Strip(row); !slices.Equal(rest, want) {
				t.Fatalf("Strip(%q) = %q", row, rest)
			}
		})
	}
}

// P14.4

func trailersByWords(list []api.Field) api.Errno {
	for _, f := range list {
		if f.Name != "" && f.Name[0] == ':' {
			return api.ErrPseudo
		}
		if !plainField(f) || slices.Contains(neverTrailers, f.Name) {
			return api.ErrTrailer
		}
	}
	return api.OK
}

func TestTrailersByTheirNames(t *testing.T) {
	wantTrailers(t, nil, api.OK)
	for _, name := range slices.Concat(neverTrailers, ownOfConnection) {
		wantTrailers(t, of(name, "1"), api.ErrTrailer)
		wantTrailers(t, of(name, ""), api.ErrTrailer)
		wantTrailers(t, of("a", "1", name, "trailers"), api.ErrTrailer)
		wantTrailers(t, of(strings.ToUpper(name), "1"), api.ErrTrailer)
		wantTrailers(t, of("x-"+name, "1", name+"-x", "1"), api.OK)
		for i := range len(name) - 1 {
			if short := name[:i+1]; !slices.Contains(neverTrailers, short) {
				wantTrailers(t, of(short, "1"), api.OK)
			}
		}
	}
	for _, name := range []string{"x", "etag", "date", "content-language", "content-location", "accept", "range", "content", "trailers", "1", "~"} {
		wantTrailers(t, of(name, "1"), api.OK)
		wantTrailers(t, of(name, "1", name, "1"), api.OK)
	}
	for _, name := range []string{":", ":x", ":path", ":status", ":A", ":\x00", "::"} {
		wantTrailers(t, of(name, "1"), api.ErrPseudo)
		wantTrailers(t, of(name, "\x00"), api.ErrPseudo)
		wantTrailers(t, of("x", "1", name, "1"), api.ErrPseudo)
	}
}

func TestTrailersByTheFirstThatIsWrong(t *testing.T) {
	wantTrailers(t, of("X", "1", ":x", ""), api.ErrTrailer)
	wantTrailers(t, of(":x", "", "X", "1"), api.ErrPseudo)
	wantTrailers(t, of("x", "1", "host", "h", ":x", ""), api.ErrTrailer)
	wantTrailers(t, of("x", "1", ":x", "", "host", "h"), api.ErrPseudo)
}

func TestTrailersOfEachByte(t *testing.T) {
	for c := range 256 {
		b := oneByte(c)
		for _, s := range []string{b, "a" + b, b + "a", "a" + b + "a"} {
			name, value := of(s, "1"), of("x", s)
			wantTrailers(t, name, trailersByWords(name))
			wantTrailers(t, value, trailersByWords(value))
		}
	}
}

func TestTrailersOfAllShortLists(t *testing.T) {
	some := of("a", "1", "", "1", "A", "1", "a", " 1", "a", "", ":a", "1", "te", "trailers", "upgrade", "1", "content-length", "0", "cookie", "c")
	for count := range 5 {
		rows(some, count, func(row []api.Field) { wantTrailers(t, row, trailersByWords(row)) })
	}
}

// P14.5

func TestLengthOfAllShortValues(t *testing.T) {
	texts("019-+ \tx,.", 4, func(s string) {
		fields := of("a", "1", "content-length", s)
		n, said, err := lengthByWords(fields)
		wantLength(t, fields, n, said, err)
	})
}

func TestLengthOfEachByte(t *testing.T) {
	for c := range 256 {
		b := oneByte(c)
		for _, s := range []string{b, "1" + b, b + "1", "1" + b + "1"} {
			fields := of("content-length", s)
			n, said, err := lengthByWords(fields)
			wantLength(t, fields, n, said, err)
		}
	}
}

func TestLengthAtItsDigits(t *testing.T) {
	wantLength(t, of("content-length", "0"), 0, true, api.OK)
	wantLength(t, of("content-length", "999999999999999"), 999999999999999, true, api.OK)
	wantLength(t, of("content-length", "100000000000000"), 100000000000000, true, api.OK)
	for _, value := range []string{
		"1000000000000000", "9999999999999999", "0000000000000001", "000000000000001", "00", "-0",
		"9223372036854775807", "9223372036854775808", "18446744073709551616", "18446744073709551617",
		strings.Repeat("9", 100), strings.Repeat("0", 100), "1e3", "0x1", "1_0", "1, 1", "1,1", "\u0661",
	} {
		wantLength(t, of("content-length", value), 0, false, api.ErrLength)
	}
}

func TestLengthOfFieldsOfOtherNames(t *testing.T) {
	wantLength(t, nil, 0, false, api.OK)
	wantLength(t, of("a", "1", "content-length-x", "2", "length", "3", "", "4", "content_length", "x", ":content-length", "5"), 0, false, api.OK)
	wantLength(t, of("a", "x", "content-length", "7", "content-lengt", "x"), 7, true, api.OK)
}

func TestLengthHoweverItsCapitals(t *testing.T) {
	for _, name := range capitals("content-length") {
		wantLength(t, of(name, "1"), 1, true, api.OK)
		wantLength(t, of("content-length", "2", name, "1"), 0, false, api.ErrLength)
	}
}

func TestLengthSaidMoreThanOnce(t *testing.T) {
	some := of("content-length", "1", "Content-Length", "1", "content-length", "0", "CONTENT-LENGTH", "10", "content-length", "01", "content-length", "", "x", "1")
	for count := range 6 {
		rows(some, count, func(row []api.Field) {
			n, said, err := lengthByWords(row)
			wantLength(t, row, n, said, err)
		})
	}
}

// P14.6

func TestWhole(t *testing.T) {
	for _, c := range []struct {
		fields []api.Field
		body   int
		want   api.Errno
	}{
		{nil, 0, api.OK}, {nil, 7, api.OK}, {nil, -1, api.OK}, {nil, math.MaxInt64, api.OK}, {nil, math.MinInt64, api.OK},
		{of("x", "1"), 2, api.OK},
		{of("content-length", "0"), 0, api.OK}, {of("content-length", "0"), 1, api.ErrLength}, {of("content-length", "0"), -1, api.ErrLength},
		{of("content-length", "7"), 7, api.OK}, {of("content-length", "7"), 6, api.ErrLength}, {of("content-length", "7"), 8, api.ErrLength}, {of("content-length", "7"), 0, api.ErrLength}, {of("content-length", "7"), -7, api.ErrLength},
		{of("Content-Length", "7"), 7, api.OK}, {of("Content-Length", "7"), 6, api.ErrLength},
		{of("content-length", "7", "content-length", "7"), 7, api.OK}, {of("content-length", "7", "content-length", "8"), 7, api.ErrLength}, {of("content-length", "7", "content-length", "8"), 0, api.ErrLength},
		{of("content-length", "x"), 0, api.ErrLength}, {of("content-length", "07"), 7, api.ErrLength}, {of("content-length", ""), 0, api.ErrLength},
		{of("content-length", "999999999999999"), 999999999999999, api.OK}, {of("content-length", "1000000000000000"), 1000000000000000, api.ErrLength},
	} {
		// Neither the body nor the trailers are looked at, but the number alone.
		r := api.Request{Fields: c.fields, Body: "abc", Trailers: of("content-length", "x")}
		if err := Whole(r, c.body); err != c.want {
			t.Errorf("Whole(%q, %d) = %d, not %d", c.fields, c.body, int(err), int(c.want))
		}
	}
}

// P14.7

func wantWaits(t *testing.T, want bool, fields ...string) {
	t.Helper()
	r := api.Request{Fields: of(fields...), Trailers: of("expect", "100-continue")}
	if want {
		r.Trailers = nil
	}
	if waits := Waits(r); waits != want {
		t.Errorf("Waits(%q) = %v", fields, waits)
	}
}

func TestWaits(t *testing.T) {
	for _, value := range capitals("100-continue") {
		wantWaits(t, true, "expect", value)
	}
	wantWaits(t, true, "a", "1", "expect", "x", "expect", "100-continue", "expect", "y")
	wantWaits(t, true, "expect", "100-continue", "expect", "100-continue")
	wantWaits(t, false)
	wantWaits(t, false, "expec", "100-continue")
	wantWaits(t, false, "expects", "100-continue")
	wantWaits(t, false, "x", "100-continue", "expect", "x")
	for _, value := range []string{"", "100", "continue", "100-continue ", " 100-continue", "100-continue, 100-continue", "100-continu", "200-continue", "100_continue", "100-cont\u0131nue"} {
		wantWaits(t, false, "expect", value)
	}
}

// A request's fields have their names in small letters: what is left to its capitals is the value.
func TestWaitsByTheNameAsRequestsHaveIt(t *testing.T) {
	wantWaits(t, false, "Expect", "100-continue")
}

// P14.8

func TestListOfEachStatus(t *testing.T) {
	for status := -1100; status <= 11000; status++ {
		want := "500"
		if status >= 100 && status <= 999 {
			want = strconv.Itoa(status)
		}
		wantList(t, api.Response{Status: status}, of(":status", want))
	}
	for _, status := range []int{math.MinInt64, math.MinInt64 + 100, math.MaxInt64, 1<<32 + 200} {
		wantList(t, api.Response{Status: status}, of(":status", "500"))
	}
}

func TestListOfFields(t *testing.T) {
	for _, c := range []struct{ fields, want []api.Field }{
		{of("A", "B", "c", "D"), of("a", "B", "c", "D")},
		{of("B", "1", "Upgrade", "x", "A", "2", "KEEP-ALIVE", "", "b", "3"), of("b", "1", "a", "2", "b", "3")},
		{of("connection", "x", "X", "1", "transfer-encoding", "chunked", "Proxy-Connection", "y"), of("x", "1")},
		// Nothing else is taken away or changed.
		{of("Host", "H", "TE", "Gzip", "Content-Length", "07", "", "", "\u00c4Z", " \x00"), of("host", "H", "te", "Gzip", "content-length", "07", "", "", "\u00c4z", " \x00")},
		{of(":Status", "200"), of(":status", "200")},
	} {
		r := api.Response{Status: 200, Fields: c.fields, Body: "body", Trailers: of("t", "1")}
		wantList(t, r, slices.Concat(of(":status", "200"), c.want))
	}
}

func TestBare(t *testing.T) {
	for status := -400; status <= 2000; status++ {
		bare := status >= 100 && status <= 199 || status == 204 || status == 304
		for _, method := range []string{"GET", "POST", "OPTIONS", "", "head", "Head", "HEAD ", "HEA", "XHEAD"} {
			if is := Bare(method, status); is != bare {
				t.Errorf("Bare(%q, %d) = %v", method, status, is)
			}
		}
		if !Bare("HEAD", status) {
			t.Errorf("Bare(HEAD, %d) = false", status)
		}
	}
	for _, status := range []int{math.MinInt64, math.MaxInt64, 1<<32 + 204, -204} {
		if Bare("GET", status) || !Bare("HEAD", status) {
			t.Error(status)
		}
	}
}

// P14.9

func TestStripOfStrip(t *testing.T) {
	next := numbers(9)
	names := slices.Concat(ownOfConnection, []string{"a", "host", "", "Upgrade", "KEEP-alive", "te"})
	for range 3000 {
		var fields []api.Field
		for range next(9) {
			fields = append(fields, api.Field{Name: names[next(len(names))], Value: strconv.Itoa(next(9))})
		}
		once := Strip(fields)
		if again := Strip(once); !slices.Equal(once, again) {
			t.Errorf("Strip(%q) = %q, and of that %q", fields, once, again)
		}
	}
}

// R2

// spared is a list with room behind it, and what lies in that room.
func spared(fields []api.Field) (list, all []api.Field) {
	all = slices.Concat(fields, of("spare", "1", "connection", "a, b", "host", "spare"))
	return all[:len(fields)], all
}

func TestListsThatAreHandedIn(t *testing.T) {
	two := of(":method", "GET", ":scheme", "http", ":path", "/", "a", "1", "te", "trailers", "host", "h", "content-length", "3")
	one := of("Host", "h", "Connection", "A", "A", "1", "TE", "x", "Content-Length", "3", "B", "2")
	for _, c := range []struct {
		fields []api.Field
		call   func([]api.Field)
	}{
		{one, func(l []api.Field) { Size(l) }},
		{one, func(l []api.Field) { Strip(l) }},
		{two, func(l []api.Field) { Two(l) }},
		{one, func(l []api.Field) { One("GET", "/", l) }},
		{two[3:4], func(l []api.Field) { Trailers(l) }},
		{one, func(l []api.Field) { Length(l) }},
		{one, func(l []api.Field) { Whole(api.Request{Fields: l}, 3) }},
		{one, func(l []api.Field) { Waits(api.Request{Fields: l}) }},
		{one, func(l []api.Field) { List(api.Response{Status: 200, Fields: l}) }},
	} {
		list, all := spared(c.fields)
		before := slices.Clone(all)
		c.call(list)
		if !slices.Equal(all, before) {
			t.Errorf("%q became %q", before, all)
		}
	}
}

func TestListsThatComeOut(t *testing.T) {
	two := of(":method", "GET", ":scheme", "http", ":path", "/", "host", "h", "a", "1", "b", "2")
	one := of("host", "h", "a", "1", "b", "2")
	for i, c := range []struct {
		fields []api.Field
		call   func([]api.Field) []api.Field
	}{
		{one[1:], Strip},
		{two, func(l []api.Field) []api.Field { r, _ := Two(l); return r.Fields }},
		{one, func(l []api.Field) []api.Field { r, _ := One("GET", "/", l); return r.Fields }},
		{one, func(l []api.Field) []api.Field { return List(api.Response{Fields: l}) }},
	} {
		list := slices.Clone(c.fields)
		first, second := c.call(list), c.call(list)
		want := slices.Clone(second)
		if len(want) == 0 || !slices.Equal(first, want) {
			t.Fatalf("%d: %q and %q", i, first, second)
		}
		for _, other := range [][]api.Field{list, first[:cap(first)]} {
			for j := range other {
				other[j] = api.Field{Name: "other", Value: "other"}
			}
		}
		if !slices.Equal(second, want) {
			t.Errorf("%d: %q became %q", i, want, second)
		}
		if !slices.Equal(c.call(slices.Clone(c.fields)), want) {
			t.Errorf("%d: another answer", i)
		}
	}
}
