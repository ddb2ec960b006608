package text

import (
	"math"
	"math/big"
	"regexp"
	"slices"
	"strings"
	"testing"

	"ostler/api"
)

// allTexts are all texts of up to so many bytes of an alphabet.
func allTexts(alphabet string, most int) []string {
	all := []string{""}
	for from := 0; most > 0; most-- {
		to := len(all)
		for _, s := range all[from:to] {
			for i := range len(alphabet) {
				all = append(all, s+alphabet[i:i+1])
			}
		}
		from = to
	}
	return all
}

// allBytes are the 256 texts of one byte.
func allBytes() []string {
	var all []string
	for c := range 256 {
		all = append(all, string([]byte{byte(c)}))
	}
	return all
}

const (
	capitals = "ABCDEFGHIJKLMNOPQRSTUVWXYZ"
	smalls   = "abcdefghijklmnopqrstuvwxyz"
	digits   = "0123456789"
)

// P1.1
func TestToken(t *testing.T) {
	for _, x := range []struct {
		s    string
		want bool
	}{
		{"a-b", true},
		{"", false},
		{"a b", false},
		{"a@", false},
		{"GET", true},
		{"!#$%&'*+-.^_`|~", true},
		{"content-length", true},
		{":method", false},
		{" a", false},
		{"a ", false},
		{"a\t", false},
		{"a\x00b", false},
		{"a\x7f", false},
		{"\x80a", false},
		{"\xff", false},
		{"Ä", false},
		{"a\r\n", false},
		{`"a"`, false},
	} {
		if got := Token(x.s); got != x.want {
			t.Errorf("Token(%q) = %v", x.s, got)
		}
	}
}

// P1.1
func TestTokenOfEachByte(t *testing.T) {
	tokens := capitals + smalls + digits + "!#$%&'*+-.^_|~\x60"
	for _, s := range allBytes() {
		want := strings.Contains(tokens, s)
		for _, whole := range []string{s, "a" + s, s + "a", "a" + s + "a"} {
			if Token(whole) != want {
				t.Errorf("Token(%q) = %v", whole, !want)
			}
		}
	}
}

// P1.2
func TestValue(t *testing.T) {
	for _, x := range []struct {
		s    string
		want bool
	}{
		{"a b", true},
		{" a", false},
		{"a ", false},
		{"\ta", false},
		{"a\t", false},
		{"", true},
		{" ", false},
		{"\t", false},
		{" \t ", false},
		{"a\tb", true},
		{"a \t b", true},
		{"a\x00b", false},
		{"\x80", true},
		{"\x80\xff", true},
		{"~", true},
		{"a\x7fb", false},
		{"a\r\nb", false},
		{"a\nb", false},
		{"a@b, \"c\"; d=\\", true},
	} {
		if got := Value(x.s); got != x.want {
			t.Errorf("Value(%q) = %v", x.s, got)
		}
	}
}

// P1.2
func TestValueOfEachByte(t *testing.T) {
	for c, s := range allBytes() {
		within := c == 0x09 || c >= 0x20 && c <= 0x7e || c >= 0x80
		outside := within && c != 0x09 && c != 0x20
		if Value("a"+s+"a") != within {
			t.Errorf("%q within: %v", s, !within)
		}
		for _, whole := range []string{s, s + "a", "a" + s} {
			if Value(whole) != outside {
				t.Errorf("Value(%q) = %v", whole, !outside)
			}
		}
	}
}

// P1.3
func TestLower(t *testing.T) {
	for s, want := range map[string]string{
		"":                      "",
		"\xc3\x84Az":            "\xc3\x84az",
		"@AZ[`az{":              "@az[`az{",
		capitals:                smalls,
		smalls:                  smalls,
		"A\x00B\x7fC\x80D\xffE": "a\x00b\x7fc\x80d\xffe",
		"K\xe2\x84\xaa":         "k\xe2\x84\xaa",
	} {
		if got := Lower(s); got != want {
			t.Errorf("Lower(%q) = %q", s, got)
		}
	}
}

// P1.3
func TestLowerOfEachByte(t *testing.T) {
	for _, s := range allBytes() {
		want := s
		if at := strings.Index(capitals, s); at >= 0 {
			want = smalls[at : at+1]
		}
		if got := Lower(s); got != want {
			t.Errorf("Lower(%q) = %q", s, got)
		}
	}
}

// P1.3
func TestSame(t *testing.T) {
	for _, x := range []struct {
		a, b string
		want bool
	}{
		{"", "", true},
		{"Host", "hOST", true},
		{"a", "ab", false},
		{"ab", "a", false},
		{"a", "", false},
		{"a", "b", false},
		{"@", "`", false},
		{"[", "{", false},
		{"\xc3\x84", "\xc3\xa4", false},
		{"k", "\xe2\x84\xaa", false},
		{"\xff", "\xff", true},
		{"\xff", "\xef\xbf\xbd", false},
		{"a\x00B", "A\x00b", true},
	} {
		if got := Same(x.a, x.b); got != x.want {
			t.Errorf("Same(%q, %q) = %v", x.a, x.b, got)
		}
	}
	for _, a := range allBytes() {
		for _, b := range allBytes() {
			if Same(a, b) != (Lower(a) == Lower(b)) {
				t.Errorf("Same(%q, %q) = %v", a, b, Same(a, b))
			}
		}
	}
}

// P1.4
func TestTrim(t *testing.T) {
	for s, want := range map[string]string{
		"":                       "",
		" ":                      "",
		" \t \t":                 "",
		"a":                      "a",
		" \ta b ":                "a b",
		"\ta \t b\t":             "a \t b",
		" a":                     "a",
		"a\t":                    "a",
		"\n a \r":                "\n a \r",
		" \x00 ":                 "\x00",
		"\v\f":                   "\v\f",
		" \xa0 ":                 "\xa0",
		"\xc2\xa0a\xc2\xa0":      "\xc2\xa0a\xc2\xa0",
		"\x7f \x80":              "\x7f \x80",
		strings.Repeat("\t ", 9): "",
	} {
		if got := Trim(s); got != want {
			t.Errorf("Trim(%q) = %q", s, got)
		}
	}
}

// P1.4
func TestTrimOfEachByte(t *testing.T) {
	for c, s := range allBytes() {
		want := s
		if c == 0x20 || c == 0x09 {
			want = ""
		}
		if got := Trim(s); got != want {
			t.Errorf("Trim(%q) = %q", s, got)
		}
		if got := Trim(" a" + s + "a\t"); got != "a"+s+"a" {
			t.Errorf("%q within: %q", s, got)
		}
	}
}

type numberCase struct {
	s    string
	want int
	err  api.Errno
}

func checkNumbers(t *testing.T, read func(string) (int, api.Errno), cases []numberCase) {
	t.Helper()
	for _, x := range cases {
		if n, err := read(x.s); n != x.want || err != x.err {
			t.Errorf("%q: %d, %v", x.s, n, err)
		}
	}
}

// P1.5
func TestNumber(t *testing.T) {
	checkNumbers(t, Number, []numberCase{
		{"0", 0, api.OK},
		{"7", 7, api.OK},
		{"007", 7, api.OK},
		{"000", 0, api.OK},
		{"1234567890", 1234567890, api.OK},
		{"", 0, api.ErrDigits},
		{"-1", 0, api.ErrDigits},
		{"-", 0, api.ErrDigits},
		{"+1", 0, api.ErrDigits},
		{" 1", 0, api.ErrDigits},
		{"1 ", 0, api.ErrDigits},
		{"1a", 0, api.ErrDigits},
		{"a", 0, api.ErrDigits},
		{"1_0", 0, api.ErrDigits},
		{"0x1", 0, api.ErrDigits},
		{"1.0", 0, api.ErrDigits},
		{"1\x00", 0, api.ErrDigits},
		{"\xd9\xa1", 0, api.ErrDigits},
		{"9223372036854775806", 9223372036854775806, api.OK},
		{"9223372036854775807", 9223372036854775807, api.OK},
		{"9223372036854775808", 0, api.ErrRange},
		{"9223372036854775810", 0, api.ErrRange},
		{"92233720368547758080", 0, api.ErrRange},
		{"10000000000000000000", 0, api.ErrRange},
		{"18446744073709551616", 0, api.ErrRange},
		{"18446744073709551617", 0, api.ErrRange},
		{strings.Repeat("0", 99) + "9223372036854775807", 9223372036854775807, api.OK},
		{strings.Repeat("0", 99) + "9223372036854775808", 0, api.ErrRange},
		{strings.Repeat("9", 999), 0, api.ErrRange},
		{strings.Repeat("9", 999) + "x", 0, api.ErrDigits},
		{"9223372036854775808-", 0, api.ErrDigits},
	})
}

// P1.5
func TestHex(t *testing.T) {
	checkNumbers(t, Hex, []numberCase{
		{"0", 0, api.OK},
		{"1F", 31, api.OK},
		{"1f", 31, api.OK},
		{"00aF", 175, api.OK},
		{"abcdef", 0xabcdef, api.OK},
		{"ABCDEF", 0xabcdef, api.OK},
		{"", 0, api.ErrDigits},
		{"g", 0, api.ErrDigits},
		{"G", 0, api.ErrDigits},
		{"`", 0, api.ErrDigits},
		{"@", 0, api.ErrDigits},
		{"-1", 0, api.ErrDigits},
		{"0x1", 0, api.ErrDigits},
		{"1 ", 0, api.ErrDigits},
		{"1\x00", 0, api.ErrDigits},
		{"7fffffffffffffff", 9223372036854775807, api.OK},
		{"7FFFFFFFFFFFFFFE", 9223372036854775806, api.OK},
		{"8000000000000000", 0, api.ErrRange},
		{"10000000000000000", 0, api.ErrRange},
		{"10000000000000001", 0, api.ErrRange},
		{strings.Repeat("0", 99) + "7fffffffffffffff", 9223372036854775807, api.OK},
		{strings.Repeat("0", 99) + "8000000000000000", 0, api.ErrRange},
		{strings.Repeat("f", 999), 0, api.ErrRange},
		{strings.Repeat("f", 999) + "g", 0, api.ErrDigits},
	})
}

// P1.5
func TestNumbersOfEachByte(t *testing.T) {
	for _, s := range allBytes() {
		value := strings.Index(digits+"abcdef", Lower(s))
		decimal := numberCase{s, value, api.OK}
		hexadecimal := decimal
		if value < 0 || value > 9 {
			decimal = numberCase{s, 0, api.ErrDigits}
		}
		if value < 0 {
			hexadecimal = numberCase{s, 0, api.ErrDigits}
		}
		checkNumbers(t, Number, []numberCase{decimal})
		checkNumbers(t, Hex, []numberCase{hexadecimal})
	}
}

// P1.5
func TestNumbersNearTheGreatest(t *testing.T) {
	most := big.NewInt(math.MaxInt64)
	for d := int64(-300); d <= 300; d++ {
		n := new(big.Int).Add(most, big.NewInt(d))
		want, err := 0, api.ErrRange
		if n.IsInt64() {
			want, err = int(n.Int64()), api.OK
		}
		checkNumbers(t, Number, []numberCase{{n.Text(10), want, err}})
		checkNumbers(t, Hex, []numberCase{{n.Text(16), want, err}})
	}
}

// P1.6
func TestDecimal(t *testing.T) {
	for n, want := range map[int]string{
		0:                    "0",
		1:                    "1",
		-1:                   "-1",
		9:                    "9",
		10:                   "10",
		-10:                  "-10",
		1234567890:           "1234567890",
		9223372036854775807:  "9223372036854775807",
		-9223372036854775807: "-9223372036854775807",
		-9223372036854775808: "-9223372036854775808",
	} {
		if got := Decimal(n); got != want {
			t.Errorf("Decimal(%s) = %q", want, got)
		}
	}
}

// P1.7
func TestList(t *testing.T) {
	for s, want := range map[string][]string{
		`a, ,b;q="x,y" ,, c`:     {`a`, `b;q="x,y"`, `c`},
		`"a\",b", c`:             {`"a\",b"`, `c`},
		`"a, b`:                  {`"a, b`},
		``:                       nil,
		`,`:                      nil,
		" ,\t, ":                 nil,
		`a`:                      {`a`},
		" a b\t":                 {`a b`},
		`a,b,c`:                  {`a`, `b`, `c`},
		`,a,`:                    {`a`},
		`a,a`:                    {`a`, `a`},
		`a\,b`:                   {`a\`, `b`},
		`\"a,b`:                  {`\"a,b`},
		`\"a,b",c`:               {`\"a,b"`, `c`},
		`"a\`:                    {`"a\`},
		`"a\,b`:                  {`"a\,b`},
		`"a\\",b`:                {`"a\\"`, `b`},
		`"a\\\",b`:               {`"a\\\",b`},
		`"",b`:                   {`""`, `b`},
		`"a"",b`:                 {`"a"",b`},
		`"a""b,c",d`:             {`"a""b,c"`, `d`},
		`x"a,b"y,z`:              {`x"a,b"y`, `z`},
		`" a "`:                  {`" a "`},
		` " a `:                  {`" a`},
		`\`:                      {`\`},
		`a,\`:                    {`a`, `\`},
		`W/"1", "2"`:             {`W/"1"`, `"2"`},
		"a\x00,\x7f,\x80,\xff\n": {"a\x00", "\x7f", "\x80", "\xff\n"},
		"\xc2\xa0,\xc3\x84":      {"\xc2\xa0", "\xc3\x84"},
	} {
		if got := List(s); !slices.Equal(got, want) {
			t.Errorf("List(%q) = %q", s, got)
		}
	}
}

// P1.7, against a reading of the words by a pattern: quotes, ended or not, or a byte that is neither quote nor comma.
func TestListOfAllShortTexts(t *testing.T) {
	piece := regexp.MustCompile(`^(?s:"(?:\\.|[^"\\])*(?:"|\\?\z)|[^",])*`)
	for _, s := range allTexts("a,\"\\ \t", 7) {
		var want []string
		for rest := s; ; {
			cut := len(piece.FindString(rest))
			if member := strings.Trim(rest[:cut], " \t"); member != "" {
				want = append(want, member)
			}
			if cut == len(rest) {
				break
			}
			rest = rest[cut+1:]
		}
		if got := List(s); !slices.Equal(got, want) {
			t.Fatalf("List(%q) = %q, not %q", s, got, want)
		}
	}
}

// P1.7 under R2: an answer is its own memory, whatever is done to another one.
func TestListIsNewMemory(t *testing.T) {
	s := "a,b,c"
	first := List(s)
	second := List(s)
	first[0] = "x"
	_ = append(first[:1], "y")
	if !slices.Equal(second, []string{"a", "b", "c"}) || !slices.Equal(List(s), second) {
		t.Errorf("%q, %q", second, List(s))
	}
}

// P1.8
func TestNumberOfDecimal(t *testing.T) {
	for shift := range 63 {
		for d := -2; d <= 2; d++ {
			n := 1<<shift + d
			if n < 0 {
				continue
			}
			if got, err := Number(Decimal(n)); got != n || err != api.OK {
				t.Errorf("%d: %d, %v", n, got, err)
			}
		}
	}
	if got, err := Number(Decimal(math.MaxInt)); got != math.MaxInt || err != api.OK {
		t.Errorf("the greatest: %d, %v", got, err)
	}
	if got, err := Number(Decimal(math.MinInt)); got != 0 || err != api.ErrDigits {
		t.Errorf("the least: %d, %v", got, err)
	}
}

// P1.8
func TestWhatFollowsOfTexts(t *testing.T) {
	for _, s := range append(allTexts("aZ,\" \t\\\x80", 5), allBytes()...) {
		small := Lower(s)
		if Lower(small) != small || !Same(s, small) {
			t.Errorf("Lower of Lower of %q: %q", s, Lower(small))
		}
		if Token(s) && !Value(s) {
			t.Errorf("%q is a token, and no value", s)
		}
		for _, member := range List(s) {
			if member == "" || Trim(member) != member {
				t.Errorf("List(%q) has %q", s, member)
			}
			if !strings.Contains(member, `"`) && strings.Contains(member, ",") {
				t.Errorf("List(%q) has %q, without quotes", s, member)
			}
		}
	}
}

// R1 and R4: long texts are read in one pass.
func TestLongTexts(t *testing.T) {
	const many = 1 << 20
	blanks := strings.Repeat(" \t", many)
	if Trim(blanks) != "" || Trim(blanks+"a"+blanks) != "a" || Value(blanks) {
		t.Error("blanks")
	}
	if len(List(strings.Repeat("a,", many))) != many || len(List(strings.Repeat(",", many))) != 0 {
		t.Error("lists")
	}
	if l := List(`"` + strings.Repeat(`\"`, many) + `,`); len(l) != 1 {
		t.Errorf("quotes: %d members", len(l))
	}
	if n, err := Number(strings.Repeat("0", many) + "1"); n != 1 || err != api.OK {
		t.Errorf("noughts: %d, %v", n, err)
	}
	if !Token(strings.Repeat("a", many)) || Lower(strings.Repeat("A", many)) != strings.Repeat("a", many) {
		t.Error("letters")
	}
}
