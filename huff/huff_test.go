package huff

import (
	"encoding/hex"
	"math"
	"slices"
	"strconv"
	"strings"
	"testing"

	"ostler/api"
)

// document is the chapter's table of lengths, that of the end behind it.
const document = `
13 23 28 28 28 28 28 28 28 24 30 28 28 30 28 28 28 28 28 28 28 28 30 28 28 28 28 28 28 28 28 28
6 10 10 12 13 6 8 11 10 10 8 11 8 6 6 6 5 5 5 6 6 6 6 6 6 6 7 8 15 6 12 10
13 6 7 7 7 7 7 7 7 7 7 7 7 7 7 7 7 7 7 7 7 7 7 7 8 7 8 13 19 13 14 6
15 5 6 5 6 5 6 6 6 5 7 7 6 6 6 5 6 7 6 5 5 6 7 7 7 7 7 15 11 14 13 28
20 22 20 20 22 22 22 23 22 23 23 23 23 23 24 23 24 24 22 23 24 23 23 23 23 21 22 23 22 23 23 24
22 21 20 22 22 23 23 21 23 22 22 24 21 22 23 23 21 21 22 21 23 22 23 23 20 22 22 22 23 22 22 23
26 26 20 19 22 23 22 25 26 26 26 27 27 26 24 25 19 21 26 27 27 26 27 24 21 21 26 26 28 27 27 27
20 24 20 21 22 21 21 23 22 22 25 25 24 24 26 23 26 27 26 26 27 27 27 27 27 28 27 27 27 27 27 26
30`

// plain has the codes as texts of 0 and 1, worked out step by step as the chapter says it.
type plain struct {
	code   [257]string
	symbol map[string]int
}

func newPlain() *plain {
	var length []int
	for _, word := range strings.Fields(document) {
		bits, _ := strconv.Atoi(word)
		length = append(length, bits)
	}
	order := make([]int, len(length))
	for i := range order {
		order[i] = i
	}
	slices.SortStableFunc(order, func(a, b int) int { return length[a] - length[b] })
	p := &plain{symbol: map[string]int{}}
	code := strings.Repeat("0", length[order[0]])
	for i, symbol := range order {
		if i > 0 {
			code = oneMore(code) + strings.Repeat("0", length[symbol]-length[order[i-1]])
		}
		p.code[symbol] = code
		p.symbol[code] = symbol
	}
	return p
}

// oneMore is the number behind one, both in as many bits.
func oneMore(bits string) string {
	last := strings.LastIndexByte(bits, '0')
	return bits[:last] + "1" + strings.Repeat("0", len(bits)-last-1)
}

// bits are the codes of a text, nothing behind them.
func (p *plain) bits(s string) string {
	var out strings.Builder
	for i := range len(s) {
		out.WriteString(p.code[s[i]])
	}
	return out.String()
}

func (p *plain) encode(s string) string { return filled(p.bits(s)) }

func (p *plain) decode(s string, most int) (string, api.Errno) {
	out := ""
	behind := ""
	for _, bit := range unpacked(s) {
		behind += string(bit)
		symbol, whole := p.symbol[behind]
		switch {
		case !whole:
			continue
		case symbol == 256:
			return "", api.ErrEnd
		case len(out)+1 > max(most, 0):
			return "", api.ErrLong
		}
		out += string([]byte{byte(symbol)})
		behind = ""
	}
	if len(behind) > 7 || strings.Contains(behind, "0") {
		return "", api.ErrPad
	}
	return out, api.OK
}

// filled are the bytes of bits, the last one filled with ones.
func filled(bits string) string {
	for len(bits)%8 != 0 {
		bits += "1"
	}
	out := make([]byte, 0, len(bits)/8)
	for ; bits != ""; bits = bits[8:] {
		b, _ := strconv.ParseUint(bits[:8], 2, 8)
		out = append(out, byte(b))
	}
	return string(out)
}

// unpacked are the bits of bytes.
func unpacked(s string) string {
	var out strings.Builder
	for i := range len(s) {
		for shift := 7; shift >= 0; shift-- {
			out.WriteByte('0' + s[i]>>shift&1)
		}
	}
	return out.String()
}

func bytesOf(t *testing.T, digits string) string {
	t.Helper()
	b, err := hex.DecodeString(strings.ReplaceAll(digits, " ", ""))
	if err != nil {
		t.Fatal(err)
	}
	return string(b)
}

// scattered are so many bytes, the same ones for the same seed.
func scattered(seed uint64, n int) string {
	out := make([]byte, n)
	for i := range out {
		seed = seed*6364136223846793005 + 1442695040888963407
		out[i] = byte(seed >> 56)
	}
	return string(out)
}

// both fails, unless a text is coded as these bytes and read from them.
func both(t *testing.T, s, coded string) {
	t.Helper()
	if got := Encode(s); got != coded {
		t.Errorf("Encode(%q) = %x, not %x", s, got, coded)
	}
	if got := Size(s); got != len(coded) {
		t.Errorf("Size(%q) = %d, not %d", s, got, len(coded))
	}
	if got, err := Decode(coded, len(s)); got != s || err != api.OK {
		t.Errorf("Decode(%x, %d) = %q, %v", coded, len(s), got, err)
	}
}

// answers fails, unless Decode answers so; an error stands beside an empty text.
func answers(t *testing.T, coded string, most int, s string, err api.Errno) {
	t.Helper()
	if got, e := Decode(coded, most); got != s || e != err {
		t.Errorf("Decode(%x, %d) = %q, %v, not %q, %v", coded, most, got, e, s, err)
	}
}

// P3.1, P3.2: the chapter's examples, and texts as other programs code them.
func TestExamples(t *testing.T) {
	for _, x := range []struct{ text, coded string }{
		{"", ""},
		{"0", "07"},
		{"a", "1F"},
		{"www.example.com", "F1 E3 C2 E5 F2 3A 6B A0 AB 90 F4 FF"},
		{"no-cache", "A8 EB 10 64 9C BF"},
		{"\x00", "FF C7"},
		{"\xff", "FF FF FB BF"},
		{"custom-key", "25 A8 49 E9 5B A9 7D 7F"},
		{"custom-value", "25 A8 49 E9 5B B8 E8 B4 BF"},
		{"302", "64 02"},
		{"307", "64 0E FF"},
		{"private", "AE C3 77 1A 4B"},
		{"Mon, 21 Oct 2013 20:13:21 GMT", "D0 7A BE 94 10 54 D4 44 A8 20 05 95 04 0B 81 66 E0 82 A6 2D 1B FF"},
		{"https://www.example.com", "9D 29 AD 17 18 63 C7 8F 0B 97 C8 E9 AE 82 AE 43 D3"},
		{"gzip", "9B D9 AB"},
		{"foo=ASDJKHQKBZXOQWEOPIUAXQWEOIU; max-age=3600; version=1", "94 E7 82 1D D7 F2 E6 C7 B3 35 DF DF CD 5B 39 60 D5 AF 27 08 7F 36 72 C1 AB 27 0F B5 29 1F 95 87 31 60 65 C0 03 ED 4E E5 B1 06 3D 50 07"},
	} {
		both(t, x.text, bytesOf(t, x.coded))
	}
	answers(t, "\x07", 1, "0", api.OK)
	answers(t, "\x07", 0, "", api.ErrLong)
	answers(t, "\x06", 9, "", api.ErrPad)
	answers(t, "\xff", 9, "", api.ErrPad)
	answers(t, "\x1f\xff", 9, "", api.ErrPad)
	answers(t, "\xff\xff\xff\xff", 9, "", api.ErrEnd)
	answers(t, "", -1, "", api.OK)
}

// What the tests hold the package against is itself as the chapter says: no code begins another one, and the end's is 30 ones.
func TestPlainCodes(t *testing.T) {
	p := newPlain()
	for symbol, code := range p.code {
		for bits := 1; bits < len(code); bits++ {
			if other, whole := p.symbol[code[:bits]]; whole {
				t.Errorf("the code of %d begins with that of %d", symbol, other)
			}
		}
	}
	for symbol, code := range map[int]string{
		256:  strings.Repeat("1", 30),
		'0':  "00000",
		' ':  "010100",
		':':  "1011100",
		'&':  "11111000",
		'!':  "1111111000",
		'\\': "1111111111111110000",
		10:   strings.Repeat("1", 28) + "00",
		22:   strings.Repeat("1", 28) + "10",
	} {
		if p.code[symbol] != code {
			t.Errorf("the code of %d is %s", symbol, p.code[symbol])
		}
	}
}

// P3.1, P3.3: each byte alone and each two bytes, there and back.
func TestEachByteAndPair(t *testing.T) {
	p := newPlain()
	for a := range 256 {
		one := string([]byte{byte(a)})
		both(t, one, p.encode(one))
		for b := range 256 {
			two := string([]byte{byte(a), byte(b)})
			both(t, two, p.encode(two))
		}
	}
}

// P3.1, P3.3: the same byte so often that its codes end at each bit of a byte.
func TestEachByteOften(t *testing.T) {
	p := newPlain()
	for a := range 256 {
		for n := range 17 {
			s := strings.Repeat(string([]byte{byte(a)}), n)
			both(t, s, p.encode(s))
		}
	}
}

// P3.2: all coded bytes up to two, with every most that tells them apart, and those that stand beside no sound one.
func TestDecodeShort(t *testing.T) {
	p := newPlain()
	mosts := []int{math.MinInt, -1, 0, 1, 2, 3, 4, math.MaxInt}
	for n := range 1<<16 + 1<<8 + 1 {
		coded := string([]byte{byte(n >> 8), byte(n)})
		if n >= 1<<16 {
			coded = coded[1:]
		}
		if n == 1<<16+1<<8 {
			coded = ""
		}
		for _, most := range mosts {
			s, err := p.decode(coded, most)
			answers(t, coded, most, s, err)
		}
	}
}

// P3.2: longer bytes of every kind, many of them with long codes.
func TestDecodeScattered(t *testing.T) {
	p := newPlain()
	for seed := range 6000 {
		coded := scattered(uint64(seed), 3+seed%9)
		if seed%3 != 0 {
			coded = strings.Repeat("\xff", 1+seed%4) + coded
		}
		for _, most := range []int{0, 1, 3, 5, len(coded) * 2} {
			s, err := p.decode(coded, most)
			answers(t, coded, most, s, err)
		}
	}
}

// P3.2: the code of the end, wherever it stands, whatever is behind it; only what ends ahead of it is told first.
func TestEnd(t *testing.T) {
	p := newPlain()
	for a := range 256 {
		one := string([]byte{byte(a)})
		for _, tail := range []string{"", "0", "11", "00000", strings.Repeat("1", 30), "0000011111111111"} {
			bits := p.code[256] + tail
			answers(t, filled(bits), 0, "", api.ErrEnd)
			answers(t, filled(bits), math.MinInt, "", api.ErrEnd)
			answers(t, filled(p.bits(one)+bits), 1, "", api.ErrEnd)
			answers(t, filled(p.bits(one)+bits), math.MaxInt, "", api.ErrEnd)
			answers(t, filled(p.bits(one)+bits), 0, "", api.ErrLong)
			answers(t, filled(p.bits(one)+bits), -5, "", api.ErrLong)
		}
	}
	answers(t, "\xff\xff\xff\xfc", 9, "", api.ErrEnd)
	answers(t, "\xff\xff\xff\xf8", 9, "", api.ErrPad)
	answers(t, "\xff\xff\xff", 9, "", api.ErrPad)
}

// P3.2: one byte more than may be is told ahead of the bits behind the last code; if the bits end with no such byte, these are told.
func TestLongOrPad(t *testing.T) {
	answers(t, "\x00\x00", 3, "", api.ErrPad)
	answers(t, "\x00\x00", 2, "", api.ErrLong)
	answers(t, "\x00\x01", 3, "000", api.OK)
	answers(t, "\x00\x01", 2, "", api.ErrLong)
	answers(t, "\x00\x01\xff", 3, "", api.ErrPad)
	answers(t, "\x00\x01\xff", 2, "", api.ErrLong)
	answers(t, "\x06", 1, "", api.ErrPad)
	answers(t, "\x06", 0, "", api.ErrLong)
	answers(t, "\xff", 0, "", api.ErrPad)
	answers(t, "\xfe", 0, "", api.ErrPad)
	answers(t, "\xa8\xeb\x10\x64\x9c\xbf", 8, "no-cache", api.OK)
	answers(t, "\xa8\xeb\x10\x64\x9c\xbf", 7, "", api.ErrLong)
	answers(t, "\xa8\xeb\x10\x64\x9c", 8, "", api.ErrPad)
	answers(t, "\xa8\xeb\x10\x64\x9c", 6, "", api.ErrLong)
}

// P3.2: up to 7 ones may stand behind the last code; every other filling of the last byte is refused.
func TestPadding(t *testing.T) {
	p := newPlain()
	for n := range 8 { // codes of 5 bits leave every number of bits from none to 7
		s := strings.Repeat("0", n)
		rest := -5 * n & 7
		for filling := range 1 << rest {
			bits := p.bits(s)
			for shift := rest - 1; shift >= 0; shift-- {
				bits += strconv.Itoa(filling >> shift & 1)
			}
			want, err := p.decode(filled(bits), n)
			answers(t, filled(bits), n, want, err)
			if ones := filling == 1<<rest-1; ones != (err == api.OK) {
				t.Errorf("%s: %v", bits, err)
			}
		}
	}
}

// P3.2: 8 ones and more behind the last code are too many; 30 are the end.
func TestManyOnes(t *testing.T) {
	p := newPlain()
	for ones := range 31 {
		n := 0
		for (5*n+ones)%8 != 0 {
			n++
		}
		s := strings.Repeat("0", n)
		coded := filled(p.bits(s) + strings.Repeat("1", ones))
		switch {
		case ones < 8:
			answers(t, coded, n, s, api.OK)
		case ones < 30:
			answers(t, coded, n, "", api.ErrPad)
		default:
			answers(t, coded, n, "", api.ErrEnd)
		}
	}
}

// P3.2, P3.3: a text is read whenever most is its length or more, and not with one less.
func TestMost(t *testing.T) {
	for seed := range 300 {
		s := scattered(uint64(seed), 1+seed%50)
		coded := Encode(s)
		for _, most := range []int{len(s), len(s) + 1, 2 * len(s), math.MaxInt} {
			answers(t, coded, most, s, api.OK)
		}
		for _, most := range []int{len(s) - 1, len(s) / 2, 0, -1, math.MinInt} {
			answers(t, coded, most, "", api.ErrLong)
		}
	}
}

// P3.3: what Decode reads Encode writes, and it has no more than 8 fifths as many bytes.
func TestReadIsWritten(t *testing.T) {
	check := func(coded string) bool {
		s, err := Decode(coded, math.MaxInt)
		if err != api.OK {
			return false
		}
		if got := Encode(s); got != coded {
			t.Errorf("Encode(Decode(%x)) = %x", coded, got)
		}
		if Size(s) != len(coded) || 5*len(s) > 8*len(coded) {
			t.Errorf("%x is a text of %d bytes, %d coded", coded, len(s), Size(s))
		}
		return true
	}
	read := 0
	for n := range 1 << 16 {
		if check(string([]byte{byte(n >> 8), byte(n)})) {
			read++
		}
	}
	for seed := range 20000 {
		if check(scattered(uint64(seed), 3+seed%6)) {
			read++
		}
	}
	if read < 1000 {
		t.Errorf("only %d were read", read)
	}
	check(strings.Repeat("\x00", 5))
	answers(t, "\x00\x00\x00\x00\x00", 8, "00000000", api.OK)
}

// P3.3: two texts one behind the other begin with all whole bytes of the first one's codes.
func TestBehind(t *testing.T) {
	p := newPlain()
	for seed := range 2000 {
		a := scattered(uint64(seed), seed%7)
		b := scattered(uint64(seed)+77777, seed/7%5)
		whole := len(p.bits(a)) / 8
		first, two := Encode(a), Encode(a+b)
		if !strings.HasPrefix(two, first[:whole]) {
			t.Errorf("Encode(%q+%q) = %x, which does not begin with %x", a, b, two, first[:whole])
		}
		both(t, a+b, p.encode(a+b))
	}
}

// P3.1, P3.2: long texts, of the shortest codes and of the longest ones.
func TestLongTexts(t *testing.T) {
	for _, piece := range []string{"0", "aeiou012", "\n", "\n\r\x16", "\xff0", scattered(4, 1000)} {
		s := strings.Repeat(piece, 1<<18/len(piece))
		coded := Encode(s)
		if Size(s) != len(coded) {
			t.Errorf("%.20q: Size is %d, not %d", s, Size(s), len(coded))
		}
		if got, err := Decode(coded, len(s)); got != s || err != api.OK {
			t.Errorf("%.20q: %d bytes, %v", s, len(got), err)
		}
		if got, err := Decode(coded, len(s)-1); got != "" || err != api.ErrLong {
			t.Errorf("%.20q: %d bytes, %v", s, len(got), err)
		}
		if got, err := Decode(coded+"\xff", len(s)); got != "" || err != api.ErrPad {
			t.Errorf("%.20q: %d bytes, %v", s, len(got), err)
		}
	}
}
