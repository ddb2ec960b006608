package frame

import (
	"encoding/hex"
	"math"
	"slices"
	"strings"
	"testing"

	"ostler/api"
)

const (
	greatest = 2147483647
	most     = 16777215 // bytes of a payload
)

var (
	fine  = api.Wrong{}
	noErr = api.OK
)

func conn(c api.Code) api.Wrong { return api.Wrong{Is: true, Conn: true, Code: c} }

func one(c api.Code) api.Wrong { return api.Wrong{Is: true, Code: c} }

func bytesOf(t testing.TB, digits string) string {
	t.Helper()
	b, err := hex.DecodeString(strings.Join(strings.Fields(digits), ""))
	if err != nil {
		t.Fatal(err)
	}
	return string(b)
}

// numbers are some that look scattered, the same ones for the same seed.
func numbers(seed uint64) func(n int) int {
	return func(n int) int {
		seed = seed*6364136223846793005 + 1442695040888963407
		return int(seed>>33) % n
	}
}

// allTexts are all texts of up to so many bytes of an alphabet.
func allTexts(alphabet string, most int) []string {
	all := []string{""}
	for from := 0; most > 0; most-- {
		to := len(all)
		for _, s := range all[from:to] {
			for i := range len(alphabet) {
				all = append(all, s+alphabet[i:i+1])
			}
		}
		from = to
	}
	return all
}

// same tells whether parts are alike; a list without elements may be nil or not.
func same(a, b api.Parts) bool {
	return a.Data == b.Data && a.Pad == b.Pad && a.Code == b.Code && a.Last == b.Last && a.Weight == b.Weight &&
		a.Only == b.Only && a.More == b.More && slices.Equal(a.Settings, b.Settings)
}

// The chapter's examples.

func TestExamplesOfBytes(t *testing.T) {
	f := api.Frame{Kind: api.FramePing, Flags: 1, Payload: strings.Repeat("\x00", 8)}
	if s, err := Write(f); s != bytesOf(t, "00 00 08 06 01 00 00 00 00 00 00 00 00 00 00 00 00") || err != noErr {
		t.Errorf("%x %v", s, err)
	}
	f, n, err := Next(bytesOf(t, "00 00 01 00 01 80 00 00 03 61 62"), 10)
	if f != (api.Frame{Kind: api.FrameData, Flags: 1, Stream: 3, Payload: "a"}) || n != 10 || err != noErr {
		t.Error(f, n, err)
	}
	wantNoNext(t, "\x00\x00\x02", 1, api.ErrLong)
	wantNoNext(t, "\x00\x00\x02", 2, api.ErrShort)
	wantNoNext(t, "\x00\x00", 0, api.ErrShort)
}

func TestExamplesOfParse(t *testing.T) {
	wantParse(t, api.Frame{Flags: 8, Stream: 1, Payload: "\x02ab\x00\x00"}, api.Parts{Data: "ab", Pad: 3}, fine)
	wantParse(t, api.Frame{Flags: 8, Stream: 1, Payload: "\x05ab\x00\x00"}, api.Parts{}, conn(api.Protocol))
	wantParse(t, api.Frame{Flags: 8, Stream: 1}, api.Parts{}, conn(api.FrameSize))
	wantParse(t, api.Frame{Flags: 8}, api.Parts{}, conn(api.Protocol))
	wantParse(t, api.Frame{Kind: api.FrameWindow, Stream: 3, Payload: "\x00\x00\x00\x00"}, api.Parts{}, one(api.Protocol))
	wantParse(t, api.Frame{Kind: api.FrameSettings, Payload: "\x00\x04\x80\x00\x00\x00"}, api.Parts{}, conn(api.FlowControl))
}

func TestExamplesOfMake(t *testing.T) {
	wantMake(t, api.Frame{Kind: api.FrameReset, Stream: 5, Payload: "\x00\x00\x00\x08"}, api.Parts{Code: 8})
	wantNoMake(t, api.FrameSettings, 1, 0, api.Parts{Settings: []api.Setting{{ID: 1, Value: 1}}})
	wantNoMake(t, api.FramePush, 0, 1, api.Parts{Last: 2})
	wantNoMake(t, 99, 0, 1, api.Parts{})
	wantNoMake(t, api.FrameReset, 0, 0, api.Parts{Code: 8})
}

func wantNoNext(t *testing.T, data string, most int, want api.Errno) {
	t.Helper()
	if f, n, err := Next(data, most); f != (api.Frame{}) || n != 0 || err != want {
		t.Errorf("Next(%x, %d) = %v, %d, %v, not %v", data[:min(len(data), 20)], most, f, n, err, want)
	}
}

func wantParse(t *testing.T, f api.Frame, want api.Parts, wrong api.Wrong) {
	t.Helper()
	if p, w := Parse(f); !same(p, want) || w != wrong {
		t.Fatalf("Parse(%+v) = %+v, %+v, not %+v, %+v", f, p, w, want, wrong)
	}
}

func wantMake(t *testing.T, want api.Frame, p api.Parts) {
	t.Helper()
	if f, err := Make(want.Kind, want.Flags, want.Stream, p); f != want || err != noErr {
		t.Fatalf("Make(%+v) = %+v, %v, not %+v", p, f, err, want)
	}
}

func wantNoMake(t *testing.T, kind, flags, stream int, p api.Parts) {
	t.Helper()
	if f, err := Make(kind, flags, stream, p); f != (api.Frame{}) || err != api.ErrFrame {
		t.Fatalf("Make(%d, %d, %d, %+v) = %+v, %v", kind, flags, stream, p, f, err)
	}
}

// P7.1

func TestNextTakesEachByteInItsPlace(t *testing.T) {
	payload := strings.Repeat("p", 0x010203)
	f, n, err := Next("\x01\x02\x03\x04\x05\x86\x07\x08\x09"+payload+"behind", most)
	if f != (api.Frame{Kind: 4, Flags: 5, Stream: 0x06070809, Payload: payload}) || n != 9+0x010203 || err != noErr {
		t.Error(f.Kind, f.Flags, f.Stream, len(f.Payload), n, err)
	}
	f, n, err = Next("\x00\x00\x00\xff\xfe\xff\xff\xff\xff", 0)
	if f != (api.Frame{Kind: 255, Flags: 254, Stream: greatest}) || n != 9 || err != noErr {
		t.Error(f, n, err)
	}
}

func TestNextIsLongAheadOfShort(t *testing.T) {
	for _, x := range []struct {
		size string
		long int
	}{{"\x00\x00\x00", 0}, {"\x00\x00\x01", 1}, {"\x00\x01\x00", 256}, {"\x01\x00\x00", 65536}, {"\xff\xff\xff", most}} {
		whole := x.size + "\x00\x00\x00\x00\x00\x01" + strings.Repeat("p", x.long)
		for _, data := range []string{x.size, whole[:5], whole[:9], whole[:len(whole)-1], whole, whole + "b"} {
			if len(data) < 3 {
				continue
			}
			for _, few := range []int{math.MinInt, -1, x.long - 1} {
				wantNoNext(t, data, few, api.ErrLong)
			}
			for _, enough := range []int{x.long, x.long + 1, math.MaxInt} {
				if len(data) < len(whole) {
					wantNoNext(t, data, enough, api.ErrShort)
				} else if f, n, err := Next(data, enough); len(f.Payload) != x.long || n != len(whole) || err != noErr {
					t.Error(x.long, enough, n, err)
				}
			}
		}
	}
}

func TestNextOfFewerThanThreeBytes(t *testing.T) {
	for _, data := range []string{"", "\x00", "\x00\x00", "\xff", "\xff\xff"} {
		for _, most := range []int{math.MinInt, -1, 0, 16384, math.MaxInt} {
			wantNoNext(t, data, most, api.ErrShort)
		}
	}
}

// P7.2

func TestWriteAtTheBorders(t *testing.T) {
	for _, x := range []struct {
		f    api.Frame
		want string
	}{
		{api.Frame{}, "00 00 00 00 00 00 00 00 00"},
		{api.Frame{Kind: 255, Payload: "a"}, "00 00 01 ff 00 00 00 00 00 61"},
		{api.Frame{Flags: 255, Payload: "ab"}, "00 00 02 00 ff 00 00 00 00 61 62"},
		{api.Frame{Stream: greatest}, "00 00 00 00 00 7f ff ff ff"},
		{api.Frame{Kind: 1, Flags: 2, Stream: 0x03040506}, "00 00 00 01 02 03 04 05 06"},
	} {
		if s, err := Write(x.f); s != bytesOf(t, x.want) || err != noErr {
			t.Errorf("Write(%v) = %x, %v", x.f, s, err)
		}
	}
	for _, long := range []int{255, 256, 65535, 65536, 0x010203, most} {
		payload := strings.Repeat("p", long)
		head := string([]byte{byte(long / 65536), byte(long / 256), byte(long), 0, 0, 0, 0, 0, 0})
		if s, err := Write(api.Frame{Payload: payload}); s != head+payload || err != noErr {
			t.Errorf("Write of %d bytes: %x, %v", long, s[:9], err)
		}
	}
}

func TestWriteRefuses(t *testing.T) {
	tooLong := strings.Repeat("p", most+1)
	for _, payload := range []string{"", "p", tooLong} {
		for _, f := range []api.Frame{
			{Kind: -1}, {Kind: 256}, {Kind: math.MinInt}, {Kind: math.MaxInt},
			{Flags: -1}, {Flags: 256}, {Flags: math.MinInt}, {Flags: math.MaxInt},
			{Stream: -1}, {Stream: greatest + 1}, {Stream: math.MinInt}, {Stream: math.MaxInt},
		} {
			f.Payload = payload
			if s, err := Write(f); s != "" || err != api.ErrRange {
				t.Errorf("Write(%d, %d, %d) = %x, %v", f.Kind, f.Flags, f.Stream, s, err)
			}
		}
	}
	if s, err := Write(api.Frame{Kind: 255, Flags: 255, Stream: greatest, Payload: tooLong}); s != "" || err != api.ErrLong {
		t.Error(len(s), err)
	}
}

// P7.3: what Parse answers against a reader that follows the table, word by word.

// plainReader takes bytes off a payload one by one.
type plainReader struct{ left []byte }

func (r *plainReader) number(bytes int) int {
	n := 0
	for range bytes {
		n = n*256 + int(r.left[0])
		r.left = r.left[1:]
	}
	return n
}

func (r *plainReader) stream() (last int, highest bool) {
	n := r.number(4)
	if n >= 1<<31 {
		return n - 1<<31, true
	}
	return n, false
}

func plainFlag(flags, bit int) bool { return uint64(flags)/uint64(bit)%2 == 1 }

func plainParse(f api.Frame) (api.Parts, api.Wrong) {
	p, w := plainSay(f)
	if w.Is {
		return api.Parts{}, w
	}
	return p, w
}

func plainSay(f api.Frame) (p api.Parts, w api.Wrong) {
	r := &plainReader{[]byte(f.Payload)}
	size := len(f.Payload)
	switch f.Kind {
	case 0, 1:
		return plainPadded(f, r)
	case 2:
		if f.Stream == 0 {
			return p, conn(api.Protocol)
		}
		if size != 5 {
			return p, one(api.FrameSize)
		}
		p.Last, p.Only = r.stream()
		p.Weight = r.number(1) + 1
	case 3:
		if f.Stream == 0 {
			return p, conn(api.Protocol)
		}
		if size != 4 {
			return p, conn(api.FrameSize)
		}
		p.Code = api.Code(r.number(4))
	case 4:
		return plainSettings(f, r)
	case 5:
		return p, conn(api.Protocol)
	case 6:
		if f.Stream != 0 {
			return p, conn(api.Protocol)
		}
		if size != 8 {
			return p, conn(api.FrameSize)
		}
		p.Data = f.Payload
	case 7:
		if f.Stream != 0 {
			return p, conn(api.Protocol)
		}
		if size < 8 {
			return p, conn(api.FrameSize)
		}
		p.Last, _ = r.stream()
		p.Code = api.Code(r.number(4))
		p.Data = string(r.left)
	case 8:
		if size != 4 {
			return p, conn(api.FrameSize)
		}
		p.More, _ = r.stream()
		if p.More == 0 && f.Stream == 0 {
			return p, conn(api.Protocol)
		}
		if p.More == 0 {
			return p, one(api.Protocol)
		}
	case 9:
		if f.Stream == 0 {
			return p, conn(api.Protocol)
		}
		p.Data = f.Payload
	case 16:
		if f.Stream != 0 {
			return p, conn(api.Protocol)
		}
		if size < 4 {
			return p, conn(api.FrameSize)
		}
		p.Last, _ = r.stream()
		if p.Last == 0 {
			return p, conn(api.Protocol)
		}
		p.Data = string(r.left)
	}
	return p, w
}

func plainPadded(f api.Frame, r *plainReader) (p api.Parts, w api.Wrong) {
	if f.Stream == 0 {
		return p, conn(api.Protocol)
	}
	padding := 0
	if plainFlag(f.Flags, 8) {
		if len(r.left) == 0 {
			return p, conn(api.FrameSize)
		}
		padding = r.number(1)
		if f.Kind == 0 {
			p.Pad = 1 + padding
		}
	}
	if f.Kind == 1 && plainFlag(f.Flags, 32) {
		if len(r.left) < 5 {
			return p, conn(api.FrameSize)
		}
		p.Last, p.Only = r.stream()
		p.Weight = r.number(1) + 1
	}
	if padding > len(r.left) {
		return p, conn(api.Protocol)
	}
	p.Data = string(r.left[:len(r.left)-padding])
	return p, w
}

func plainSettings(f api.Frame, r *plainReader) (p api.Parts, w api.Wrong) {
	if f.Stream != 0 {
		return p, conn(api.Protocol)
	}
	if plainFlag(f.Flags, 1) && len(r.left) > 0 {
		return p, conn(api.FrameSize)
	}
	if len(r.left)%6 != 0 {
		return p, conn(api.FrameSize)
	}
	for len(r.left) > 0 {
		id, value := r.number(2), r.number(4)
		if id == 2 && value > 1 {
			return p, conn(api.Protocol)
		}
		if id == 4 && value > 2147483647 {
			return p, conn(api.FlowControl)
		}
		if id == 5 && (value < 16384 || value > 16777215) {
			return p, conn(api.Protocol)
		}
		p.Settings = append(p.Settings, api.Setting{ID: id, Value: value})
	}
	return p, w
}

var (
	allKinds   = []int{0, 1, 2, 3, 4, 5, 6, 7, 8, 9, 10, 11, 15, 16, 17, 32, 99, 255, 256, 260, -1, -8, math.MinInt, math.MaxInt}
	someFlags  = []int{0, 1, 4, 8, 9, 32, 36, 40, 41, 2, 128, 215, 247, 255, 256, 264, 288, -1, -9, -33, -2, math.MinInt, math.MinInt + 40, math.MaxInt}
	allStreams = []int{0, 1, 2, greatest, greatest + 1, 1 << 32, -1, math.MinInt, math.MaxInt}
)

// payloads are all short ones of some bytes, and longer ones of all lengths about the table's.
func payloads() []string {
	all := allTexts("\x00\x01\x80", 5)
	next := numbers(7)
	for long := 5; long <= 26; long++ {
		all = append(all, strings.Repeat("\x00", long), strings.Repeat("\xff", long))
		for first := range 24 {
			bytes := make([]byte, long)
			for i := range bytes {
				bytes[i] = "\x00\x01\x02\x03\x7f\x80\x81\xff"[next(8)]
			}
			bytes[0] = byte(first)
			all = append(all, string(bytes))
		}
	}
	return all
}

// settingPayloads are rows of settings at their borders, as long as three.
func settingPayloads() []string {
	var each []string
	for _, id := range []int{0, 1, 2, 3, 4, 5, 6, 7, 0x0102, 0x0200, 0x0204, 0x0400, 0x0500, 65535} {
		for _, value := range []int{0, 1, 2, 16383, 16384, 65535, most, most + 1, greatest, greatest + 1, 1<<32 - 1} {
			each = append(each, string([]byte{byte(id / 256), byte(id), byte(value >> 24), byte(value >> 16), byte(value >> 8), byte(value)}))
		}
	}
	all := slices.Clone(each)
	for _, a := range each {
		for _, b := range each {
			all = append(all, a+b)
		}
	}
	next := numbers(11)
	for range 2000 {
		all = append(all, each[next(len(each))]+each[next(len(each))]+each[next(len(each))])
	}
	return all
}

func wantAsPlain(t *testing.T, f api.Frame) {
	t.Helper()
	want, wrong := plainParse(f)
	wantParse(t, f, want, wrong)
}

func TestParseFollowsTheTable(t *testing.T) {
	for _, payload := range payloads() {
		for _, kind := range allKinds {
			for _, stream := range []int{0, 1} {
				for _, flags := range []int{0, 1, 8, 32, 40, 215, -1} {
					wantAsPlain(t, api.Frame{Kind: kind, Flags: flags, Stream: stream, Payload: payload})
				}
			}
		}
	}
}

func TestParseOfAllFlagsAndStreams(t *testing.T) {
	for _, payload := range []string{"", "\x00", "\x01", "\x00\x00\x00\x00", "\x80\x00\x00\x00", "\x01\x02\x03\x04", "\x01\x80\x00\x00\x05", "\x01\x80\x00\x00\x05\x06", "\x01\x80\x00\x00\x05\x06\x07", "12345678", "\x00\x05\x00\x00\x40\x00"} {
		for _, kind := range allKinds {
			for _, stream := range allStreams {
				for _, flags := range someFlags {
					wantAsPlain(t, api.Frame{Kind: kind, Flags: flags, Stream: stream, Payload: payload})
				}
				for flags := range 256 {
					wantAsPlain(t, api.Frame{Kind: kind, Flags: flags, Stream: stream, Payload: payload})
				}
			}
		}
	}
}

func TestParseOfSettings(t *testing.T) {
	for _, payload := range settingPayloads() {
		wantAsPlain(t, api.Frame{Kind: 4, Payload: payload})
	}
}

func TestParseOfAllPadding(t *testing.T) {
	for padding := range 256 {
		for _, long := range []int{0, 1, padding - 1, padding, padding + 1, padding + 4, padding + 5, padding + 6, 300} {
			payload := string([]byte{byte(padding)}) + strings.Repeat("p", max(long, 0))
			for _, kind := range []int{0, 1} {
				for _, flags := range []int{0, 8, 40} {
					wantAsPlain(t, api.Frame{Kind: kind, Flags: flags, Stream: 1, Payload: payload})
				}
			}
		}
	}
}

func TestParseOfSingleRows(t *testing.T) {
	for _, x := range []struct {
		f    api.Frame
		want api.Parts
		w    api.Wrong
	}{
		{api.Frame{Stream: 1, Payload: "\x02ab"}, api.Parts{Data: "\x02ab"}, fine},
		{api.Frame{Flags: 40, Stream: 1, Payload: "\x00abcdefg"}, api.Parts{Data: "abcdefg", Pad: 1}, fine},
		{api.Frame{Flags: 8, Stream: 1, Payload: "\x02ab"}, api.Parts{Pad: 3}, fine},
		{api.Frame{Flags: 8, Stream: 1, Payload: "\x03ab"}, api.Parts{}, conn(api.Protocol)},
		{api.Frame{Kind: 1, Stream: 1, Payload: "\x80\x00\x00\x03\x0fab"}, api.Parts{Data: "\x80\x00\x00\x03\x0fab"}, fine},
		{api.Frame{Kind: 1, Flags: 8, Stream: 1, Payload: "\x01ab"}, api.Parts{Data: "a"}, fine},
		{api.Frame{Kind: 1, Flags: 32, Stream: 1, Payload: "\x80\x00\x00\x03\x0fab"}, api.Parts{Data: "ab", Last: 3, Only: true, Weight: 16}, fine},
		{api.Frame{Kind: 1, Flags: 32, Stream: 1, Payload: "\x80\x00\x00\x03"}, api.Parts{}, conn(api.FrameSize)},
		{api.Frame{Kind: 1, Flags: 40, Stream: 1, Payload: "\xff\x80\x00\x00\x03"}, api.Parts{}, conn(api.FrameSize)},
		{api.Frame{Kind: 1, Flags: 40, Stream: 1, Payload: "\x01\x00\x00\x00\x03\xff"}, api.Parts{}, conn(api.Protocol)},
		{api.Frame{Kind: 1, Flags: 40, Stream: 1, Payload: "\x01\x00\x00\x00\x03\xffb"}, api.Parts{Last: 3, Weight: 256}, fine},
		{api.Frame{Kind: 1, Flags: 40}, api.Parts{}, conn(api.Protocol)},
		{api.Frame{Kind: 2, Stream: 1, Payload: "\xff\xff\xff\xff\x00"}, api.Parts{Last: greatest, Only: true, Weight: 1}, fine},
		{api.Frame{Kind: 2, Stream: 1, Payload: "\xff\xff\xff\xff\x00\x00"}, api.Parts{}, one(api.FrameSize)},
		{api.Frame{Kind: 4, Flags: 1}, api.Parts{}, fine},
		{api.Frame{Kind: 4, Flags: 1, Payload: "\x00\x02\x00\x00\x00\x09"}, api.Parts{}, conn(api.FrameSize)},
		{api.Frame{Kind: 4, Payload: "\x00\x02\x00\x00\x00\x09\x00"}, api.Parts{}, conn(api.FrameSize)},
		{api.Frame{Kind: 4, Payload: "\x00\x04\xff\xff\xff\xff\x00\x02\x00\x00\x00\x09"}, api.Parts{}, conn(api.FlowControl)},
		{api.Frame{Kind: 4, Payload: "\x00\x02\x00\x00\x00\x09\x00\x04\xff\xff\xff\xff"}, api.Parts{}, conn(api.Protocol)},
		{api.Frame{Kind: 4, Payload: "\xff\xfe\xff\xff\xff\xff"}, api.Parts{Settings: []api.Setting{{ID: 65534, Value: 4294967295}}}, fine},
		{api.Frame{Kind: 5}, api.Parts{}, conn(api.Protocol)},
		{api.Frame{Kind: 5, Flags: 4, Stream: 1, Payload: "\x00\x00\x00\x02x"}, api.Parts{}, conn(api.Protocol)},
		{api.Frame{Kind: 7, Payload: "\xff\xff\xff\xff\xff\xff\xff\xfe"}, api.Parts{Last: greatest, Code: 4294967294}, fine},
		{api.Frame{Kind: 8, Payload: "\xff\xff\xff\xff"}, api.Parts{More: greatest}, fine},
		{api.Frame{Kind: 8, Stream: 1, Payload: ""}, api.Parts{}, conn(api.FrameSize)},
		{api.Frame{Kind: 9, Flags: 40, Stream: 1, Payload: "\x01ab"}, api.Parts{Data: "\x01ab"}, fine},
		{api.Frame{Kind: 16, Payload: "\x80\x00\x00\x00u"}, api.Parts{}, conn(api.Protocol)},
		{api.Frame{Kind: 16, Payload: "\x80\x00\x00\x01"}, api.Parts{Last: 1}, fine},
	} {
		wantParse(t, x.f, x.want, x.w)
		wantAsPlain(t, x.f)
	}
}

func TestParseOfMoreThanAFrameMayHave(t *testing.T) {
	long := strings.Repeat("p", most+1)
	wantParse(t, api.Frame{Kind: 9, Stream: 1, Payload: long}, api.Parts{Data: long}, fine)
	wantParse(t, api.Frame{Stream: 1, Flags: 8, Payload: "\x01" + long}, api.Parts{Data: long[1:], Pad: 2}, fine)
}

func TestParseGivesNewSettings(t *testing.T) {
	f := api.Frame{Kind: 4, Payload: "\x00\x03\x00\x00\x00\x05\x00\x01\x00\x00\x00\x07"}
	first, _ := Parse(f)
	again, _ := Parse(f)
	first.Settings[0].Value = 99
	first.Settings = append(first.Settings[:1], api.Setting{ID: 9})
	if !slices.Equal(again.Settings, []api.Setting{{ID: 3, Value: 5}, {ID: 1, Value: 7}}) {
		t.Error(again.Settings)
	}
}

// P7.4

// plainest is the frame that says the same as f, with noughts for padding and for bits that do not count.
func plainest(f api.Frame) api.Frame {
	b := []byte(f.Payload)
	switch {
	case f.Kind == 0 && plainFlag(f.Flags, 8):
		clear(b[len(b)-int(b[0]):])
	case f.Kind == 7 || f.Kind == 8 || f.Kind == 16:
		b[0] %= 128
	}
	f.Payload = string(b)
	return f
}

func isInTable(kind int) bool { return 0 <= kind && kind <= 9 || kind == 16 }

func isWritable(f api.Frame) bool {
	return 0 <= f.Flags && f.Flags <= 255 && 0 <= f.Stream && f.Stream <= greatest
}

// wantMakeOfParse asks for the frame of what a frame says.
func wantMakeOfParse(t *testing.T, f api.Frame) {
	t.Helper()
	p, w := plainParse(f)
	if w.Is {
		return
	}
	if !isInTable(f.Kind) || !isWritable(f) || f.Kind == 1 && plainFlag(f.Flags, 8) {
		wantNoMake(t, f.Kind, f.Flags, f.Stream, p)
		return
	}
	wantMake(t, plainest(f), p)
}

func TestMakeOfParse(t *testing.T) {
	for _, payload := range settingPayloads() {
		wantMakeOfParse(t, api.Frame{Kind: 4, Payload: payload})
	}
	for _, payload := range payloads() {
		for _, kind := range allKinds {
			for _, stream := range []int{0, 1} {
				for _, flags := range []int{0, 1, 8, 32, 40, 215} {
					wantMakeOfParse(t, api.Frame{Kind: kind, Flags: flags, Stream: stream, Payload: payload})
				}
			}
		}
	}
	for _, payload := range []string{"", "\x01\x02\x03\x04", "\x01\x02\x03\x04\x05", "12345678", "\x00\x05\x00\x00\x40\x00"} {
		for _, kind := range allKinds {
			for _, stream := range allStreams {
				for _, flags := range someFlags {
					wantMakeOfParse(t, api.Frame{Kind: kind, Flags: flags, Stream: stream, Payload: payload})
				}
			}
		}
	}
}

// fits tells whether there is a frame that says p, by what its kind has and how great each part may be.
func fits(kind, flags, stream int, p api.Parts) bool {
	padded, ranked := plainFlag(flags, 8), plainFlag(flags, 32)
	isStream := func(n int) bool { return 0 <= n && n <= greatest }
	isCode := 0 <= p.Code && p.Code <= 4294967295
	isWeight := 1 <= p.Weight && p.Weight <= 256
	rest := p // what is not looked at must be zero
	ok := false
	switch kind {
	case 0:
		rest.Data, rest.Pad = "", 0
		ok = stream != 0 && (padded && 1 <= p.Pad && p.Pad <= 256 || !padded && p.Pad == 0)
	case 1:
		rest.Data = ""
		ok = stream != 0 && !padded
		if ranked {
			rest.Last, rest.Only, rest.Weight = 0, false, 0
			ok = ok && isStream(p.Last) && isWeight
		}
	case 2:
		rest.Last, rest.Only, rest.Weight = 0, false, 0
		ok = stream != 0 && isStream(p.Last) && isWeight
	case 3:
		rest.Code = 0
		ok = stream != 0 && isCode
	case 4:
		rest.Settings = nil
		ok = stream == 0 && (len(p.Settings) == 0 || !plainFlag(flags, 1))
		for _, s := range p.Settings {
			ok = ok && 0 <= s.ID && s.ID <= 65535 && 0 <= s.Value && s.Value <= 4294967295
			ok = ok && !(s.ID == 2 && s.Value > 1) && !(s.ID == 4 && s.Value > greatest)
			ok = ok && !(s.ID == 5 && (s.Value < 16384 || s.Value > most))
		}
	case 6:
		rest.Data = ""
		ok = stream == 0 && len(p.Data) == 8
	case 7:
		rest.Last, rest.Code, rest.Data = 0, 0, ""
		ok = stream == 0 && isStream(p.Last) && isCode
	case 8:
		rest.More = 0
		ok = isStream(p.More) && p.More != 0
	case 9:
		rest.Data = ""
		ok = stream != 0
	case 16:
		rest.Last, rest.Data = 0, ""
		ok = stream == 0 && isStream(p.Last) && p.Last != 0
	}
	return ok && same(rest, api.Parts{}) && isWritable(api.Frame{Flags: flags, Stream: stream})
}

// wantMakeAsFits holds Make against fits, and the frame against the table.
func wantMakeAsFits(t *testing.T, kind, flags, stream int, p api.Parts) {
	t.Helper()
	if !fits(kind, flags, stream, p) {
		wantNoMake(t, kind, flags, stream, p)
		return
	}
	f, err := Make(kind, flags, stream, p)
	got, w := plainParse(f)
	if err != noErr || f.Kind != kind || f.Flags != flags || f.Stream != stream || !same(got, p) || w.Is || f != plainest(f) {
		t.Fatalf("Make(%d, %d, %d, %+v) = %+v, %v", kind, flags, stream, p, f, err)
	}
	wantParse(t, f, p, fine)
}

// edges are numbers at and beyond what some part may have.
var edges = []int{0, 1, 2, 3, 255, 256, 257, 258, 512, 65535, 65536, greatest, greatest + 1, greatest + 4, 1<<32 - 1, 1 << 32, 1<<32 + 3, -1, -2, -255, -256, math.MinInt, math.MinInt + 1, math.MaxInt}

// sound are parts that some kind has, each of them whole.
var sound = []api.Parts{
	{}, {Data: "a"}, {Data: "12345678"}, {Data: "ab", Pad: 1}, {Pad: 3}, {Code: 8}, {Last: 3}, {More: 4},
	{Last: 3, Weight: 16}, {Last: 3, Weight: 16, Only: true}, {Weight: 1}, {Data: "a", Last: 3, Only: true, Weight: 256},
	{Last: 5, Code: 2, Data: "why"}, {Last: 5, Data: "u=1"}, {Settings: []api.Setting{{ID: 3, Value: 5}}}, {Settings: []api.Setting{}},
}

// eachEdge calls a function with parts of which one is at an edge.
func eachEdge(p api.Parts, call func(p api.Parts)) {
	for _, n := range edges {
		for _, change := range []func(p *api.Parts){
			func(p *api.Parts) { p.Pad = n },
			func(p *api.Parts) { p.Code = api.Code(n) },
			func(p *api.Parts) { p.Last = n },
			func(p *api.Parts) { p.Weight = n },
			func(p *api.Parts) { p.More = n },
			func(p *api.Parts) { p.Settings = []api.Setting{{ID: n, Value: 1}} },
			func(p *api.Parts) { p.Settings = []api.Setting{{ID: 3, Value: n}} },
			func(p *api.Parts) { p.Settings = []api.Setting{{ID: 4, Value: n}, {ID: 1, Value: 1}} },
			func(p *api.Parts) { p.Settings = []api.Setting{{ID: 1, Value: 1}, {ID: 5, Value: n}} },
		} {
			q := p
			change(&q)
			call(q)
		}
	}
	for _, data := range []string{"", "a", "1234", "12345", "1234567", "12345678", "123456789"} {
		q := p
		q.Data = data
		call(q)
	}
	q := p
	q.Only = !q.Only
	call(q)
}

func TestMakeAtTheEdges(t *testing.T) {
	for _, p := range sound {
		eachEdge(p, func(p api.Parts) {
			for _, kind := range allKinds {
				for _, stream := range []int{0, 1} {
					for _, flags := range []int{0, 1, 8, 32, 40, 255} {
						wantMakeAsFits(t, kind, flags, stream, p)
					}
				}
			}
		})
	}
}

func TestMakeOfAllFlagsAndStreams(t *testing.T) {
	for _, p := range sound {
		for _, kind := range allKinds {
			for _, stream := range allStreams {
				for _, flags := range someFlags {
					wantMakeAsFits(t, kind, flags, stream, p)
				}
			}
		}
	}
}

func TestMakeOfScatteredParts(t *testing.T) {
	next := numbers(23)
	pick := func(n int, list ...int) int {
		if next(3) == 0 {
			return list[next(len(list))]
		}
		return next(n)
	}
	for range 60000 {
		p := api.Parts{}
		if next(2) == 0 {
			p.Data = strings.Repeat("d", next(12))
		}
		if next(3) == 0 {
			p.Pad = pick(260, edges...)
		}
		if next(3) == 0 {
			p.Code = api.Code(pick(14, edges...))
		}
		if next(2) == 0 {
			p.Last = pick(9, edges...)
		}
		if next(3) == 0 {
			p.Weight = pick(260, edges...)
			p.Only = next(2) == 0
		}
		if next(4) == 0 {
			p.More = pick(9, edges...)
		}
		for next(3) == 0 {
			p.Settings = append(p.Settings, api.Setting{ID: pick(8, edges...), Value: pick(20000, edges...)})
		}
		wantMakeAsFits(t, pick(18, allKinds...), pick(256, someFlags...), pick(3, allStreams...), p)
	}
}

func TestMakeOfSingleRows(t *testing.T) {
	for _, x := range []struct {
		f api.Frame
		p api.Parts
	}{
		{api.Frame{Stream: 1}, api.Parts{}},
		{api.Frame{Flags: 8, Stream: 1, Payload: "\x00"}, api.Parts{Pad: 1}},
		{api.Frame{Flags: 9, Stream: 1, Payload: "\x02a\x00\x00"}, api.Parts{Data: "a", Pad: 3}},
		{api.Frame{Flags: 8, Stream: 1, Payload: "\xffab" + strings.Repeat("\x00", 255)}, api.Parts{Data: "ab", Pad: 256}},
		{api.Frame{Kind: 1, Flags: 5, Stream: greatest, Payload: "ab"}, api.Parts{Data: "ab"}},
		{api.Frame{Kind: 1, Flags: 32, Stream: 1, Payload: "\xff\xff\xff\xff\xffab"}, api.Parts{Data: "ab", Last: greatest, Only: true, Weight: 256}},
		{api.Frame{Kind: 1, Flags: 32, Stream: 1, Payload: "\x00\x00\x00\x00\x00"}, api.Parts{Weight: 1}},
		{api.Frame{Kind: 2, Stream: 1, Payload: "\x01\x02\x03\x04\x05"}, api.Parts{Last: 0x01020304, Weight: 6}},
		{api.Frame{Kind: 3, Stream: 1, Payload: "\xff\xff\xff\xff"}, api.Parts{Code: 4294967295}},
		{api.Frame{Kind: 4, Flags: 1}, api.Parts{Settings: []api.Setting{}}},
		{api.Frame{Kind: 4, Payload: "\x01\x02\x03\x04\x05\x06\x00\x05\x00\x00\x40\x00"}, api.Parts{Settings: []api.Setting{{ID: 0x0102, Value: 0x03040506}, {ID: 5, Value: 16384}}}},
		{api.Frame{Kind: 6, Flags: 1, Payload: "12345678"}, api.Parts{Data: "12345678"}},
		{api.Frame{Kind: 7, Payload: "\x00\x00\x00\x05\x00\x00\x00\x0bwhy"}, api.Parts{Last: 5, Code: api.Calm, Data: "why"}},
		{api.Frame{Kind: 8, Payload: "\x7f\xff\xff\xff"}, api.Parts{More: greatest}},
		{api.Frame{Kind: 9, Flags: 4, Stream: 1, Payload: "ab"}, api.Parts{Data: "ab"}},
		{api.Frame{Kind: 16, Payload: "\x00\x00\x00\x03u=1"}, api.Parts{Last: 3, Data: "u=1"}},
	} {
		wantMake(t, x.f, x.p)
	}
}

func TestMakeOfAsManyBytesAsMayBe(t *testing.T) {
	long := strings.Repeat("d", most+1)
	for _, x := range []struct {
		kind, flags, stream, head int
		p                         api.Parts
	}{
		{0, 0, 1, 0, api.Parts{}},
		{0, 8, 1, 3, api.Parts{Pad: 3}},
		{1, 0, 1, 0, api.Parts{}},
		{1, 32, 1, 5, api.Parts{Last: 1, Weight: 1}},
		{7, 0, 0, 8, api.Parts{Last: 1}},
		{9, 0, 1, 0, api.Parts{}},
		{16, 0, 0, 4, api.Parts{Last: 1}},
	} {
		x.p.Data = long[:most-x.head]
		f, err := Make(x.kind, x.flags, x.stream, x.p)
		if p, w := Parse(f); len(f.Payload) != most || err != noErr || !same(p, x.p) || w.Is {
			t.Error(x.kind, x.flags, len(f.Payload), err, w)
		}
		for _, data := range []string{long[:most-x.head+1], long} {
			x.p.Data = data
			if f, err := Make(x.kind, x.flags, x.stream, x.p); f != (api.Frame{}) || err != api.ErrFrame {
				t.Error(x.kind, x.flags, len(data), err)
			}
		}
	}
}

func TestMakeOfAsManySettingsAsMayBe(t *testing.T) {
	settings := make([]api.Setting, most/6+1)
	f, err := Make(4, 0, 0, api.Parts{Settings: settings[:most/6]})
	if len(f.Payload) != most/6*6 || err != noErr {
		t.Error(len(f.Payload), err)
	}
	if f, err := Make(4, 0, 0, api.Parts{Settings: settings}); f != (api.Frame{}) || err != api.ErrFrame {
		t.Error(len(f.Payload), err)
	}
}

func TestMakeLeavesWhatIsHandedIn(t *testing.T) {
	all := []api.Setting{{ID: 3, Value: 5}, {ID: 2, Value: 9}, {ID: 5, Value: 1}}
	f, err := Make(4, 0, 0, api.Parts{Settings: all[:1]})
	if f.Payload != "\x00\x03\x00\x00\x00\x05" || err != noErr {
		t.Error(f, err)
	}
	if !slices.Equal(all, []api.Setting{{ID: 3, Value: 5}, {ID: 2, Value: 9}, {ID: 5, Value: 1}}) {
		t.Error(all)
	}
}

// P7.5

func someFrames() []api.Frame {
	next := numbers(31)
	all := []api.Frame{{}, {Kind: 255, Flags: 255, Stream: greatest, Payload: "p"}}
	for _, long := range []int{0, 0, 1, 2, 5, 8, 0, 255, 256, 257, 300} {
		bytes := make([]byte, long)
		for i := range bytes {
			bytes[i] = byte(next(256))
		}
		all = append(all, api.Frame{Kind: next(256), Flags: next(256), Stream: next(greatest), Payload: string(bytes)})
	}
	return all
}

func TestNextOfWrite(t *testing.T) {
	for _, f := range someFrames() {
		s, err := Write(f)
		if err != noErr {
			t.Fatal(f, err)
		}
		for _, behind := range []string{"", "\x00", "\xff\xff\xff\xff", s} {
			if g, n, err := Next(s+behind, len(f.Payload)); g != f || n != len(s) || err != noErr {
				t.Error(f, g, n, err)
			}
		}
		for i := range len(s) {
			wantNoNext(t, s[:i], len(f.Payload), api.ErrShort)
		}
	}
}

func TestWriteOfNext(t *testing.T) {
	next := numbers(41)
	for range 5000 {
		bytes := make([]byte, 9+next(12))
		for i := range bytes {
			bytes[i] = byte(next(256))
		}
		bytes[0], bytes[1], bytes[2] = 0, 0, byte(next(len(bytes)-9+1))
		f, n, err := Next(string(bytes), 16384)
		if err != noErr || n != 9+int(bytes[2]) {
			t.Fatalf("%x %d %v", bytes, n, err)
		}
		bytes[5] %= 128
		if s, err := Write(f); s != string(bytes[:n]) || err != noErr {
			t.Fatalf("%x %x %v", bytes, s, err)
		}
	}
}

// taken are the frames that come out of pieces, each asked for as soon as it is whole.
func taken(t *testing.T, pieces []string) []api.Frame {
	var out []api.Frame
	kept := ""
	for _, piece := range pieces {
		kept += piece
		for {
			f, n, err := Next(kept, 16384)
			if err == api.ErrShort {
				break
			}
			if err != noErr {
				t.Fatal(err)
			}
			out = append(out, f)
			kept = kept[n:]
		}
	}
	if kept != "" {
		t.Errorf("%x is left", kept)
	}
	return out
}

func TestPiecesDoNotMatter(t *testing.T) {
	frames := someFrames()
	all := ""
	for _, f := range frames {
		s, _ := Write(f)
		all += s
	}
	for size := 1; size <= len(all); size++ {
		var pieces []string
		for rest := all; rest != ""; {
			n := min(size, len(rest))
			pieces = append(pieces, rest[:n])
			rest = rest[n:]
		}
		if got := taken(t, pieces); !slices.Equal(got, frames) {
			t.Fatal(size, got)
		}
	}
	for cut := range len(all) + 1 {
		if got := taken(t, []string{all[:cut], "", all[cut:]}); !slices.Equal(got, frames) {
			t.Fatal(cut, got)
		}
	}
}
