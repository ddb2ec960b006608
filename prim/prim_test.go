package prim

import (
	"encoding/hex"
	"fmt"
	"math"
	"math/big"
	"strconv"
	"strings"
	"testing"

	"ostler/api"
	"ostler/huff"
)

const greatest = 2147483647

// plainInt is the bytes of a number, its bits put together as texts of 0 and 1, as the chapter says it.
func plainInt(high byte, bits, n int) (string, api.Errno) {
	if bits < 1 || bits > 8 || n < 0 || n > greatest {
		return "", api.ErrArg
	}
	first := fmt.Sprintf("%08b", high)
	if strings.Contains(first[8-bits:], "1") {
		return "", api.ErrArg
	}
	all := strings.Repeat("1", bits)
	if short := fmt.Sprintf("%0*b", bits, n); len(short) == bits && short != all {
		return packed(first[:8-bits] + short), api.OK
	}
	m, _ := strconv.ParseInt(all, 2, 64)
	out := first[:8-bits] + all
	rest := strconv.FormatInt(int64(n)-m, 2)
	for len(rest)%7 != 0 {
		rest = "0" + rest
	}
	for ; len(rest) > 7; rest = rest[:len(rest)-7] {
		out += "1" + rest[len(rest)-7:]
	}
	return packed(out + "0" + rest), api.OK
}

// packed are the bytes of bits.
func packed(bits string) string {
	out := ""
	for ; bits != ""; bits = bits[8:] {
		b, _ := strconv.ParseUint(bits[:8], 2, 8)
		out += string([]byte{byte(b)})
	}
	return out
}

// plainReadInt goes through the bytes as the chapter says it; its sums are of any size.
func plainReadInt(data string, bits int) (int, int, api.Errno) {
	if bits < 1 || bits > 8 {
		return 0, 0, api.ErrArg
	}
	sum, place := new(big.Int), big.NewInt(1)
	for i := 0; ; i++ {
		if i == len(data) {
			return 0, 0, api.ErrShort
		}
		b := int64(data[i])
		ends := b < 128
		if i == 0 {
			m := int64(1)<<bits - 1
			sum.SetInt64(b % (m + 1))
			ends = sum.Cmp(big.NewInt(m)) != 0
		} else {
			sum.Add(sum, new(big.Int).Mul(place, big.NewInt(b%128)))
			place.Mul(place, big.NewInt(128))
		}
		if sum.Cmp(big.NewInt(greatest)) > 0 || i == 5 && b >= 128 {
			return 0, 0, api.ErrNumber
		}
		if ends {
			return int(sum.Int64()), i + 1, api.OK
		}
	}
}

// plainReadStr is the chapter's row of refusals, one behind the other.
func plainReadStr(data string, most int) (string, int, api.Errno) {
	if most < 0 {
		most = 0
	}
	size, head, err := plainReadInt(data, 7)
	if err != api.OK {
		return "", 0, err
	}
	coded := data[0] >= 128
	if !coded && size > most || coded && math.Ceil(float64(size)/4) > float64(most) {
		return "", 0, api.ErrLong
	}
	if len(data[head:]) < size {
		return "", 0, api.ErrShort
	}
	s := data[head : head+size]
	if coded {
		if s, err = huff.Decode(s, most); err != api.OK {
			return "", 0, err
		}
	}
	return s, head + size, api.OK
}

func bytesOf(t *testing.T, digits string) string {
	t.Helper()
	b, err := hex.DecodeString(strings.ReplaceAll(digits, " ", ""))
	if err != nil {
		t.Fatal(err)
	}
	return string(b)
}

// scattered are so many bytes, the same ones for the same seed.
func scattered(seed uint64, n int) string {
	out := make([]byte, n)
	for i := range out {
		seed = seed*6364136223846793005 + 1442695040888963407
		out[i] = byte(seed >> 56)
	}
	return string(out)
}

// allTexts are all texts of up to so many bytes of an alphabet.
func allTexts(alphabet string, most int) []string {
	all := []string{""}
	for from := 0; most > 0; most-- {
		to := len(all)
		for _, s := range all[from:to] {
			for i := range len(alphabet) {
				all = append(all, s+alphabet[i:i+1])
			}
		}
		from = to
	}
	return all
}

// writes fails, unless Int answers so.
func writes(t *testing.T, high byte, bits, n int, want string, err api.Errno) {
	t.Helper()
	if got, e := Int(high, bits, n); got != want || e != err {
		t.Errorf("Int(%02x, %d, %d) = %x, %v, not %x, %v", high, bits, n, got, e, want, err)
	}
}

// reads fails, unless ReadInt answers so.
func reads(t *testing.T, data string, bits, n, size int, err api.Errno) {
	t.Helper()
	if got, k, e := ReadInt(data, bits); got != n || k != size || e != err {
		t.Errorf("ReadInt(%x, %d) = %d, %d, %v, not %d, %d, %v", data, bits, got, k, e, n, size, err)
	}
}

// readsText fails, unless ReadStr answers so.
func readsText(t *testing.T, data string, most int, s string, size int, err api.Errno) {
	t.Helper()
	if got, k, e := ReadStr(data, most); got != s || k != size || e != err {
		t.Errorf("ReadStr(%.40x, %d) = %.40q, %d, %v, not %.40q, %d, %v", data, most, got, k, e, s, size, err)
	}
}

// textsAsSaid fails, unless ReadStr answers what the chapter's row of refusals does.
func textsAsSaid(t *testing.T, data string, most int) {
	t.Helper()
	s, size, err := plainReadStr(data, most)
	readsText(t, data, most, s, size, err)
}

// P4.1, P4.2: the chapter's examples of numbers, and the numbers of other programs' texts.
func TestIntExamples(t *testing.T) {
	for _, x := range []struct {
		high    byte
		bits, n int
		want    string
	}{
		{0x00, 5, 10, "0A"},
		{0xe0, 5, 1337, "FF 9A 0A"},
		{0x00, 8, 42, "2A"},
		{0x80, 7, 127, "FF 00"},
		{0x00, 5, 1337, "1F 9A 0A"},
		{0x20, 5, 4096, "3F E1 1F"},
		{0x10, 4, 55, "1F 28"},
		{0x00, 5, greatest, "1F E0 FF FF FF 07"},
	} {
		want := bytesOf(t, x.want)
		writes(t, x.high, x.bits, x.n, want, api.OK)
		reads(t, want, x.bits, x.n, len(want), api.OK)
	}
	writes(t, 0x10, 5, 1, "", api.ErrArg)
	writes(t, 0x00, 9, 1, "", api.ErrArg)
	writes(t, 0x00, 5, -1, "", api.ErrArg)
	writes(t, 0x00, 5, 2147483648, "", api.ErrArg)
	for _, x := range []struct {
		data    string
		n, size int
		err     api.Errno
	}{
		{"FF 9A 0A 33", 1337, 3, api.OK},
		{"FF 9A", 0, 0, api.ErrShort},
		{"", 0, 0, api.ErrShort},
		{"1F 80 00", 31, 3, api.OK},
		{"1F E0 FF FF FF 07", greatest, 6, api.OK},
		{"1F E1 FF FF FF 07", 0, 0, api.ErrNumber},
		{"1F 80 80 80 80 80", 0, 0, api.ErrNumber},
	} {
		reads(t, bytesOf(t, x.data), 5, x.n, x.size, x.err)
	}
}

// P4.3, P4.4: the chapter's examples of texts.
func TestStrExamples(t *testing.T) {
	const key = "88 25 A8 49 E9 5B A9 7D 7F"
	for s, want := range map[string]string{
		"custom-key":      key,
		"":                "00",
		"\x00\x00\x00":    "03 00 00 00",
		"www.example.com": "8C F1 E3 C2 E5 F2 3A 6B A0 AB 90 F4 FF",
		"no-cache":        "86 A8 EB 10 64 9C BF",
		"a":               "01 61",
		`"a"`:             "03 22 61 22",
	} {
		if got := Str(s); got != bytesOf(t, want) {
			t.Errorf("Str(%q) = %x, not %s", s, got, want)
		}
	}
	for _, x := range []struct {
		data string
		most int
		s    string
		size int
		err  api.Errno
	}{
		{key, 10, "custom-key", 9, api.OK},
		{key, 9, "", 0, api.ErrLong},
		{key, 1, "", 0, api.ErrLong},
		{"03 61 62", 9, "", 0, api.ErrShort},
		{"03 61 62", 2, "", 0, api.ErrLong},
		{"81 06", 9, "", 0, api.ErrPad},
		{"84 FF FF FF FF", 9, "", 0, api.ErrEnd},
	} {
		readsText(t, bytesOf(t, x.data), x.most, x.s, x.size, x.err)
	}
}

// borders are numbers at which the bytes change, and those beside them.
func borders(bits int) []int {
	all := []int{math.MinInt, math.MinInt32, math.MaxInt, math.MaxInt - 1, math.MaxUint32, math.MaxUint32 + 2}
	near := func(n int) {
		for d := -2; d <= 2; d++ {
			all = append(all, n+d)
		}
	}
	full := 1<<bits - 1
	near(0)
	near(full)
	for k := 0; k <= 35; k++ {
		near(1 << k)
		near(full + 1<<k)
	}
	near(greatest)
	return all
}

// P4.1: each high byte with all numbers at the borders.
func TestIntBorders(t *testing.T) {
	for bits := 1; bits <= 8; bits++ {
		for _, n := range borders(bits) {
			for high := range 256 {
				want, err := plainInt(byte(high), bits, n)
				writes(t, byte(high), bits, n, want, err)
			}
		}
	}
}

// P4.1: no number but 1 to 8 is one of bits.
func TestBitsRefused(t *testing.T) {
	for _, bits := range []int{math.MinInt, -64, -8, -1, 0, 9, 10, 16, 63, 64, 65, 256 + 5, 1<<32 + 5, math.MaxInt} {
		for _, n := range []int{-1, 0, 1, 300, greatest} {
			writes(t, 0, bits, n, "", api.ErrArg)
			writes(t, 0xff, bits, n, "", api.ErrArg)
		}
		// ErrArg is the first one of ReadInt's, whatever the bytes are.
		for _, data := range []string{"", "\x00", "\x05x", "\xff", "\xff\xff\xff\xff\xff\xff\xff"} {
			reads(t, data, bits, 0, 0, api.ErrArg)
		}
	}
}

// P4.1: so many of the lowest bits of high must be 0, and the others are in the first byte.
func TestHigh(t *testing.T) {
	for bits := 1; bits <= 8; bits++ {
		for high := range 256 {
			for _, n := range []int{0, 1<<bits - 2, 1<<bits - 1, greatest} {
				got, err := Int(byte(high), bits, n)
				if high%(1<<bits) != 0 {
					writes(t, byte(high), bits, n, "", api.ErrArg)
				} else if err != api.OK || int(got[0])>>bits != high>>bits {
					t.Errorf("Int(%02x, %d, %d) = %x, %v", high, bits, n, got, err)
				}
			}
		}
	}
}

// P4.1: no byte more than is needed: one byte less holds lesser numbers alone.
func TestIntShortest(t *testing.T) {
	for bits := 1; bits <= 8; bits++ {
		full := 1<<bits - 1
		firsts := []int{0, full, full + 1<<7, full + 1<<14, full + 1<<21, full + 1<<28}
		for more, first := range firsts {
			size := more + 1
			if got, err := Int(0, bits, first); len(got) != size || err != api.OK {
				t.Errorf("Int(0, %d, %d) = %x, %v, not %d bytes", bits, first, got, err, size)
			}
			if more == 0 {
				continue
			}
			if got, err := Int(0, bits, first-1); len(got) != size-1 || err != api.OK {
				t.Errorf("Int(0, %d, %d) = %x, %v, not %d bytes", bits, first-1, got, err, size-1)
			}
		}
	}
}

// P4.2: all texts of up to two bytes, with all bits.
func TestReadIntShort(t *testing.T) {
	for bits := 0; bits <= 9; bits++ {
		for k := range 1<<16 + 1<<8 + 1 {
			data := string([]byte{byte(k >> 8), byte(k)})
			if k >= 1<<16 {
				data = data[1:]
			}
			if k == 1<<16+1<<8 {
				data = ""
			}
			n, size, err := plainReadInt(data, bits)
			reads(t, data, bits, n, size, err)
		}
	}
}

// P4.2: up to seven bytes behind a first one of ones, of those at which something changes.
func TestReadIntLong(t *testing.T) {
	for _, more := range allTexts("\x00\x07\x08\x7f\x80\xff", 7) {
		bits := 1 + len(more)%8
		n, size, err := plainReadInt("\xff"+more, bits)
		reads(t, "\xff"+more, bits, n, size, err)
	}
	for _, more := range allTexts("\x00\x07\x80\xff", 6) {
		for bits := 1; bits <= 8; bits++ {
			n, size, err := plainReadInt("\xff"+more, bits)
			reads(t, "\xff"+more, bits, n, size, err)
		}
	}
}

// P4.2: the numbers about the greatest one, and the fifth byte behind the first one.
func TestReadIntGreatest(t *testing.T) {
	for bits := 1; bits <= 8; bits++ {
		full := 1<<bits - 1
		for d := -300; d <= 300; d++ {
			rest := greatest + d - full
			data := []byte{byte(full)}
			for range 4 {
				data = append(data, byte(rest%128)|128)
				rest /= 128
			}
			data = append(data, byte(rest))
			if d <= 0 {
				reads(t, string(data), bits, greatest+d, 6, api.OK)
			} else {
				reads(t, string(data), bits, 0, 0, api.ErrNumber)
			}
			// A fifth byte that goes on is refused, even if what it makes is not too great, and even if no byte follows.
			data[5] |= 128
			reads(t, string(data), bits, 0, 0, api.ErrNumber)
			reads(t, string(data)+"\x00", bits, 0, 0, api.ErrNumber)
		}
		for last := range 256 {
			data := "\xff\x80\x80\x80\x80" + string([]byte{byte(last)})
			if last < 8 {
				reads(t, data, bits, full+last<<28, 6, api.OK)
			} else {
				reads(t, data, bits, 0, 0, api.ErrNumber)
			}
		}
	}
}

// P4.2: bytes that are not needed, up to the fifth; they have noughts.
func TestReadIntMoreBytes(t *testing.T) {
	for bits := 1; bits <= 8; bits++ {
		full := 1<<bits - 1
		for noughts := range 4 {
			data := "\xff\x85" + strings.Repeat("\x80", noughts) + "\x00"
			reads(t, data, bits, full+5, len(data), api.OK)
			reads(t, data+"\xff", bits, full+5, len(data), api.OK)
			for cut := range len(data) {
				reads(t, data[:cut], bits, 0, 0, api.ErrShort)
			}
		}
		reads(t, "\xff\x85\x80\x80\x80\x80\x00", bits, 0, 0, api.ErrNumber)
	}
}

// P4.2: what is beyond the number's bits of the first byte does not matter.
func TestReadIntHigh(t *testing.T) {
	for bits := 1; bits <= 8; bits++ {
		for first := range 256 {
			n := first % (1 << bits)
			if n < 1<<bits-1 {
				reads(t, string([]byte{byte(first)}), bits, n, 1, api.OK)
			} else {
				reads(t, string([]byte{byte(first)}), bits, 0, 0, api.ErrShort)
				reads(t, string([]byte{byte(first), 3}), bits, n+3, 2, api.OK)
			}
		}
	}
}

// P4.5: numbers there and back, whatever stands behind; fewer bytes are too few.
func TestIntAndBack(t *testing.T) {
	check := func(high byte, bits, n int) {
		t.Helper()
		data, err := Int(high, bits, n)
		if err != api.OK {
			t.Errorf("Int(%02x, %d, %d): %v", high, bits, n, err)
			return
		}
		for _, behind := range []string{"", "\x00", "\x80", "\xff\xff", "abc"} {
			reads(t, data+behind, bits, n, len(data), api.OK)
		}
		for cut := range len(data) {
			reads(t, data[:cut], bits, 0, 0, api.ErrShort)
		}
	}
	for bits := 1; bits <= 8; bits++ {
		high := byte(0xff << bits & 0xff)
		for n := range 1 << 15 {
			check(high, bits, n)
		}
		for n := 1; n <= greatest; n += n/3 + 1 {
			check(0, bits, n)
			check(high, bits, n)
		}
		for _, n := range borders(bits) {
			if 0 <= n && n <= greatest {
				check(high, bits, n)
			}
		}
	}
}

// strAsSaid fails, unless a text is coded exactly where that makes fewer bytes, and its number is the shortest one.
func strAsSaid(t *testing.T, s string) {
	t.Helper()
	high, follow := byte(0), s
	if coded := huff.Encode(s); len(coded) < len(s) {
		high, follow = 128, coded
	}
	head, _ := plainInt(high, 7, len(follow))
	if got := Str(s); got != head+follow {
		t.Errorf("Str(%.40q) = %.40x, not %.40x", s, got, head+follow)
	}
}

// P4.3: all texts of two bytes, and others of every kind.
func TestStr(t *testing.T) {
	for a := range 256 {
		for b := range 256 {
			strAsSaid(t, string([]byte{byte(a), byte(b)}))
		}
	}
	for _, s := range allTexts("0a&:!X\x00", 6) {
		strAsSaid(t, s)
	}
	for seed := range 3000 {
		s := scattered(uint64(seed), seed%300)
		strAsSaid(t, s)
		strAsSaid(t, strings.Repeat("e", seed%200)+s)
	}
}

// P4.3: as many bytes coded as not are not coded; one fewer are.
func TestStrFewer(t *testing.T) {
	for s, coded := range map[string]bool{
		"":                      false,
		"a":                     false, // 5 bits
		"aa":                    false, // 10 bits
		"aaa":                   true,  // 15 bits
		"&":                     false, // 8 bits
		"&&&&&&&&&&":            false,
		"&&&&&&&&&A":            false, // 78 bits
		":::::::":               false, // 49 bits
		"::::::::":              true,  // 56 bits
		"\x00":                  false,
		"aaaaaaaaaaaa\xff":      true,
		"aaaa\xff":              false,
		strings.Repeat("~", 99): false,
	} {
		strAsSaid(t, s)
		if got := Str(s)[0] >= 128; got != coded {
			t.Errorf("Str(%q): coded is %v", s, got)
		}
	}
}

// P4.3, P4.5: texts at whose lengths the number gets one byte more, coded and not; at most 5 bytes more than the text.
func TestStrSizes(t *testing.T) {
	for _, at := range []int{127, 127 + 1<<7, 127 + 1<<14, 127 + 1<<21} {
		for size := at - 2; size <= at+2; size++ {
			// 8 codes of 5 bits are 5 bytes: the other text has as many bytes, coded.
			for _, s := range []string{strings.Repeat("\xfe", size), strings.Repeat("0", size*8/5)} {
				strAsSaid(t, s)
				got := Str(s)
				if len(got) > len(s)+5 {
					t.Errorf("Str of %d bytes has %d", len(s), len(got))
				}
				readsText(t, got, len(s), s, len(got), api.OK)
				readsText(t, got[:len(got)-1], len(s), "", 0, api.ErrShort)
				readsText(t, got, len(s)-1, "", 0, api.ErrLong)
			}
		}
	}
	for _, n := range []int{1<<28 - 1, 1<<28 + 126} {
		if head, err := Int(0, 7, n); len(head) != 5 || err != api.OK {
			t.Errorf("Int(0, 7, %d) = %x, %v", n, head, err)
		}
	}
	if head, err := Int(0, 7, 1<<28+127); len(head) != 6 || err != api.OK {
		t.Errorf("Int(0, 7, 1<<28+127) = %x, %v", head, err)
	}
}

// P4.5: texts there and back, whatever stands behind, if most is their length or more; of fewer bytes it is ErrShort.
func TestStrAndBack(t *testing.T) {
	check := func(s string) {
		t.Helper()
		data := Str(s)
		for _, behind := range []string{"", "\x00", "\xff\xff\xff\xff", data} {
			for _, most := range []int{len(s), len(s) + 1, greatest, math.MaxInt} {
				readsText(t, data+behind, most, s, len(data), api.OK)
			}
			if s == "" {
				readsText(t, data+behind, -1, "", 1, api.OK)
				continue
			}
			for _, most := range []int{len(s) - 1, 0, -1, math.MinInt} {
				readsText(t, data+behind, most, "", 0, api.ErrLong)
			}
		}
		for cut := range len(data) {
			readsText(t, data[:cut], len(s), "", 0, api.ErrShort)
			readsText(t, data[:cut], math.MaxInt, "", 0, api.ErrShort)
		}
	}
	for _, s := range allTexts("a0:\x00\xff\n", 4) {
		check(s)
	}
	for seed := range 400 {
		check(scattered(uint64(seed), seed%260))
		check(strings.Repeat("custom-", seed))
	}
}

// P4.4: a number's error stands ahead of all others.
func TestReadStrNumber(t *testing.T) {
	for _, most := range []int{math.MinInt, -1, 0, 1, greatest, math.MaxInt} {
		readsText(t, "", most, "", 0, api.ErrShort)
		for _, first := range []string{"\x7f", "\xff"} {
			readsText(t, first, most, "", 0, api.ErrShort)
			readsText(t, first+"\x80\x80\x80\x80", most, "", 0, api.ErrShort)
			readsText(t, first+"\x80\x80\x80\x80\x80", most, "", 0, api.ErrNumber)
			readsText(t, first+"\x81\xff\xff\xff\x07", most, "", 0, api.ErrNumber)
			readsText(t, first+"\x80\x80\x80\x80\x08", most, "", 0, api.ErrNumber)
		}
	}
	// The greatest number is one, of a text that is too long or too short.
	const great = "\x80\xff\xff\xff\x07"
	readsText(t, "\x7f"+great, greatest-1, "", 0, api.ErrLong)
	readsText(t, "\x7f"+great, greatest, "", 0, api.ErrShort)
	readsText(t, "\xff"+great, 1<<29-1, "", 0, api.ErrLong)
	readsText(t, "\xff"+great, 1<<29, "", 0, api.ErrShort)
	readsText(t, "\xff"+great, math.MaxInt, "", 0, api.ErrShort)
}

// P4.4: a text that says too great a number is too long, ahead of being too short, and ahead of what its codes are.
func TestReadStrLongOrShort(t *testing.T) {
	for size := range 127 {
		for most := -2; most <= 130; most++ {
			plain := string([]byte{byte(size)})
			coded := string([]byte{byte(size) | 128})
			if size > max(most, 0) {
				readsText(t, plain, most, "", 0, api.ErrLong)
				readsText(t, plain+strings.Repeat("x", size), most, "", 0, api.ErrLong)
			} else if size > 0 {
				readsText(t, plain+strings.Repeat("x", size-1), most, "", 0, api.ErrShort)
				readsText(t, plain+strings.Repeat("x", size), most, strings.Repeat("x", size), size+1, api.OK)
			}
			// A fourth, rounded up: 4 bytes may be one byte coded, 5 may not.
			ones := strings.Repeat("\xff", size)
			switch {
			case size > 4*max(most, 0):
				readsText(t, coded, most, "", 0, api.ErrLong)
				readsText(t, coded+ones, most, "", 0, api.ErrLong)
			case size >= 4:
				readsText(t, coded+ones[1:], most, "", 0, api.ErrShort)
				readsText(t, coded+ones, most, "", 0, api.ErrEnd)
			case size >= 1:
				readsText(t, coded+ones[1:], most, "", 0, api.ErrShort)
				readsText(t, coded+ones, most, "", 0, api.ErrPad)
			}
		}
	}
}

// P4.4: codes of 30 bits fill the fourth: the text is read with as many bytes as the number allows.
func TestReadStrFourth(t *testing.T) {
	for n := 1; n <= 3; n++ {
		s := strings.Repeat("\n", n)
		coded := huff.Encode(s)
		data := string([]byte{128 | byte(len(coded))}) + coded
		readsText(t, data, n, s, len(data), api.OK)
		readsText(t, data, n-1, "", 0, api.ErrLong)
		readsText(t, data[:len(data)-1], n, "", 0, api.ErrShort)
		readsText(t, data[:len(data)-1], n-1, "", 0, api.ErrLong)
	}
}

// P4.4: all bytes up to three, of those that lead to each answer, and many of every kind.
func TestReadStrAsSaid(t *testing.T) {
	mosts := []int{math.MinInt, -1, 0, 1, 2, 3, 8, 127, 128, greatest, math.MaxInt}
	for k := range 1 << 16 {
		for _, most := range []int{0, 1, 2, 200} {
			textsAsSaid(t, string([]byte{byte(k >> 8), byte(k)}), most)
		}
	}
	for _, data := range allTexts("\x00\x01\x02\x07\x1f\x7f\x80\x81\x82\xff", 5) {
		for _, most := range []int{-1, 0, 1, 3, 200} {
			textsAsSaid(t, data, most)
		}
	}
	for seed := range 20000 {
		data := scattered(uint64(seed), seed%40)
		if seed%2 == 0 {
			data = string([]byte{byte(seed>>1)%16 | byte(seed&2)<<6}) + data
		}
		for _, most := range mosts {
			textsAsSaid(t, data, most)
		}
	}
}

// P4.4: a text is read also where its number has more bytes than are needed, and where it is coded though that makes no fewer bytes.
func TestReadStrOtherForms(t *testing.T) {
	long := strings.Repeat("x", 127)
	readsText(t, "\x7f\x00"+long, 127, long, 129, api.OK)
	readsText(t, "\x7f\x80\x80\x80\x80\x00"+long+"y", 127, long, 133, api.OK)
	readsText(t, "\x7f\x80\x80\x80\x80\x00"+long[1:], 127, "", 0, api.ErrShort)
	readsText(t, "\x7f\x80\x80\x80\x80\x00"+long, 126, "", 0, api.ErrLong)
	readsText(t, "\x81\x1f", 1, "a", 2, api.OK)
	readsText(t, "\x82\xff\xc7", 1, "\x00", 3, api.OK)
	readsText(t, "\x84\xff\xff\xfb\xbf", 1, "\xff", 5, api.OK)
	readsText(t, "\x0acustom-key", 10, "custom-key", 11, api.OK)
	readsText(t, "\x80", 0, "", 1, api.OK)
	readsText(t, "\x80\x00", -7, "", 1, api.OK)
	readsText(t, "\x00\xff", math.MinInt, "", 1, api.OK)
	zeros := strings.Repeat("0", 256) // 160 bytes coded
	coded := "\xff\xa1\x80\x80\x00" + strings.Repeat("\x00", 160)
	readsText(t, coded+"\x00", 256, zeros, 165, api.OK)
	readsText(t, coded, 255, "", 0, api.ErrLong)
	readsText(t, coded[:164], 256, "", 0, api.ErrShort)
	readsText(t, coded[:164], 39, "", 0, api.ErrLong)
}

// P4.4: only the bytes of the text are read as codes, not what stands behind.
func TestReadStrBehind(t *testing.T) {
	readsText(t, "\x81\x07\xff\xff\xff\xff", 1, "0", 2, api.OK)
	readsText(t, "\x81\x1f\x00", 1, "a", 2, api.OK)
	readsText(t, "\x82\x00\x00\x01", 9, "", 0, api.ErrPad)
	readsText(t, "\x82\x00\x00\x01", 2, "", 0, api.ErrLong)
	readsText(t, "\x83\xff\xff\xff\xff", 9, "", 0, api.ErrPad)
	readsText(t, "\x85\x07\xff\xff\xff\xff", 1, "", 0, api.ErrLong)
	readsText(t, "\x85\x07\xff\xff\xff\xff", 2, "", 0, api.ErrEnd)
}

// R2: a text that is read is new memory, so that keeping it does not keep all that it came with.
func TestReadStrCopies(t *testing.T) {
	data := "\x40" + strings.Repeat("x", 1000)
	kept := make([]string, 1)
	made := testing.AllocsPerRun(100, func() { kept[0], _, _ = ReadStr(data, 64) })
	if made < 1 || kept[0] != strings.Repeat("x", 64) {
		t.Errorf("%v pieces of memory were made for %q", made, kept[0])
	}
}
