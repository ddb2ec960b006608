package hpack

import (
	"encoding/hex"
	"fmt"
	"math"
	"slices"
	"strings"
	"testing"

	"ostler/api"
	"ostler/prim"
	"ostler/table"
)

const greatest = 2147483647

func field(name, value string) api.Field { return api.Field{Name: name, Value: value} }

// fieldsOf are fields, each one a text "name: value".
func fieldsOf(texts ...string) []api.Field {
	var out []api.Field
	for _, s := range texts {
		name, value, _ := strings.Cut(s, ": ")
		out = append(out, field(name, value))
	}
	return out
}

func bytesOf(t testing.TB, digits string) string {
	t.Helper()
	b, err := hex.DecodeString(strings.Join(strings.Fields(digits), ""))
	if err != nil {
		t.Fatal(err)
	}
	return string(b)
}

// numbers are some that look scattered, the same ones for the same seed.
func numbers(seed uint64) func(n int) int {
	return func(n int) int {
		seed = seed*6364136223846793005 + 1442695040888963407
		return int(seed>>33) % n
	}
}

// allTexts are all texts of up to so many bytes of an alphabet.
func allTexts(alphabet string, most int) []string {
	all := []string{""}
	for from := 0; most > 0; most-- {
		to := len(all)
		for _, s := range all[from:to] {
			for i := range len(alphabet) {
				all = append(all, s+alphabet[i:i+1])
			}
		}
		from = to
	}
	return all
}

// eachRow calls a function with all rows of so many numbers below n.
func eachRow(n, long int, call func(row []int)) {
	rows := 1
	for range long {
		rows *= n
	}
	for number := range rows {
		row := make([]int, long)
		for i := range row {
			row[i] = number % n
			number /= n
		}
		call(row)
	}
}

// plainTable is a table as a list that is written anew at each step.
type plainTable struct {
	fields []api.Field // of index 1, 2 ..
	room   int
}

func newPlainTable(t testing.TB) plainTable {
	t.Helper()
	static, err := table.New(0)
	if err != api.OK {
		t.Fatal(err)
	}
	p := plainTable{room: 4096}
	for index := 1; index <= 61; index++ {
		f, _ := static.At(index)
		p.fields = append(p.fields, f)
	}
	return p
}

func (p plainTable) size() int {
	sum := 0
	for _, f := range p.fields[61:] {
		sum += 32 + len(f.Name+f.Value)
	}
	return sum
}

func (p plainTable) resized(room int) plainTable {
	p.room = room
	for p.size() > room {
		p.fields = p.fields[:len(p.fields)-1]
	}
	return p
}

func (p plainTable) with(f api.Field) plainTable {
	weight := 32 + len(f.Name+f.Value)
	if weight > p.room {
		p.fields = p.fields[:61]
		return p
	}
	room := p.room
	p = p.resized(room - weight)
	p.room = room
	p.fields = slices.Concat(p.fields[:61], []api.Field{f}, p.fields[61:])
	return p
}

// found is the index of the first field that is it, or of the first one with its name, or 0.
func (p plainTable) found(f api.Field) (int, bool) {
	if i := slices.Index(p.fields, f); i >= 0 {
		return i + 1, true
	}
	return slices.IndexFunc(p.fields, func(g api.Field) bool { return g.Name == f.Name }) + 1, false
}

// plainDecoder says what the chapter says, word by word.
type plainDecoder struct {
	plainTable
	list, limit int
	err         api.Errno
}

func (p *plainDecoder) restrict(most int) api.Errno {
	if most < 0 || most > 65536 {
		return api.ErrRange
	}
	p.limit = most
	return api.OK
}

func (p *plainDecoder) read(block string) ([]api.Field, api.Errno) {
	if p.err != api.OK {
		return nil, p.err
	}
	now, fields, err := p.through(block)
	if err != api.OK {
		p.err = err
		return nil, err
	}
	p.plainTable = now
	sum := 0
	for _, f := range fields {
		sum += 32 + len(f.Name) + len(f.Value)
	}
	if sum > p.list {
		return nil, api.ErrList
	}
	return fields, api.OK
}

// beginning is what a first byte begins with, in bits.
func beginning(first byte) string {
	for _, high := range []string{"1", "01", "001", "0001"} {
		if strings.HasPrefix(fmt.Sprintf("%08b", first), high) {
			return high
		}
	}
	return "0000"
}

// through goes through a block; the table that it leaves is answered, not kept.
func (p *plainDecoder) through(block string) (plainTable, []api.Field, api.Errno) {
	now := p.plainTable
	var fields []api.Field
	for block != "" {
		high := beginning(block[0])
		bits := map[string]int{"1": 7, "01": 6, "001": 5, "0001": 4, "0000": 4}[high]
		number, size, err := prim.ReadInt(block, bits)
		if err != api.OK {
			return now, nil, err
		}
		block = block[size:]
		if high == "001" {
			if len(fields) > 0 || number > p.limit {
				return now, nil, api.ErrUpdate
			}
			now = now.resized(number)
			continue
		}
		if p.limit < now.room {
			return now, nil, api.ErrUpdate
		}
		if number > len(now.fields) || number == 0 && high == "1" {
			return now, nil, api.ErrIndex
		}
		var f api.Field
		if number > 0 {
			f = now.fields[number-1]
		}
		if high != "1" {
			if number == 0 {
				if f.Name, size, err = prim.ReadStr(block, greatest); err != api.OK {
					return now, nil, err
				}
				block = block[size:]
			}
			if f.Value, size, err = prim.ReadStr(block, greatest); err != api.OK {
				return now, nil, err
			}
			block = block[size:]
		}
		if high == "01" {
			now = now.with(f)
		}
		fields = append(fields, f)
	}
	return now, fields, api.OK
}

// plainEncoder keeps all rooms that there were since the last block, the one at its end first.
type plainEncoder struct {
	plainTable
	rooms []int
}

func (p *plainEncoder) restrict(most int) api.Errno {
	if most < 0 || most > 4294967295 {
		return api.ErrRange
	}
	if most > 4096 {
		most = 4096
	}
	p.plainTable = p.resized(most)
	p.rooms = append(p.rooms, most)
	return api.OK
}

func (p *plainEncoder) write(t testing.TB, fields ...api.Field) string {
	t.Helper()
	out := ""
	number := func(high byte, bits, n int) {
		s, err := prim.Int(high, bits, n)
		if err != api.OK {
			t.Fatal(high, bits, n, err)
		}
		out += s
	}
	if least := slices.Min(p.rooms); least < p.room {
		number(0x20, 5, least)
		number(0x20, 5, p.room)
	} else if p.rooms[0] != p.room {
		number(0x20, 5, p.room)
	}
	p.rooms = []int{p.room}
	secret := []string{"authorization", "cookie", "proxy-authorization", "set-cookie"}
	passing := []string{":path", "content-length", "content-range", "date", "etag", "last-modified", "location"}
	for _, f := range fields {
		index, whole := p.found(f)
		switch {
		case slices.Contains(secret, f.Name):
			number(0x10, 4, index)
		case whole:
			number(0x80, 7, index)
			continue
		case slices.Contains(passing, f.Name), 32+len(f.Name+f.Value) > p.room:
			number(0, 4, index)
		default:
			number(0x40, 6, index)
			p.plainTable = p.with(f)
		}
		if index == 0 {
			out += prim.Str(f.Name)
		}
		out += prim.Str(f.Value)
	}
	return out
}

func madeDecoder(t testing.TB, list int) (*Decoder, *plainDecoder) {
	t.Helper()
	d, err := NewDecoder(list)
	if d == nil || err != api.OK {
		t.Fatalf("NewDecoder(%d): %v", list, err)
	}
	return d, &plainDecoder{plainTable: newPlainTable(t), list: list, limit: 4096}
}

func madeEncoder(t testing.TB) (*Encoder, *plainEncoder) {
	t.Helper()
	e := NewEncoder()
	if e == nil {
		t.Fatal("no encoder")
	}
	return e, &plainEncoder{plainTable: newPlainTable(t), rooms: []int{4096}}
}

// reads fails, unless both decoders answer the same to a block.
func reads(t testing.TB, d *Decoder, p *plainDecoder, block string) {
	t.Helper()
	got, err := d.Read(block)
	want, e := p.read(block)
	if err != e || !slices.Equal(got, want) {
		t.Fatalf("Read(%x): %.200v, %v, want %.200v, %v", block, got, err, want, e)
	}
	if d.Size() != p.size() {
		t.Fatalf("Read(%x): size %d, want %d", block, d.Size(), p.size())
	}
}

// writes fails, unless both encoders write the same.
func writes(t testing.TB, e *Encoder, p *plainEncoder, fields ...api.Field) string {
	t.Helper()
	got, want := e.Write(fields...), p.write(t, fields...)
	if got != want {
		t.Fatalf("Write(%.200v): %x, want %x", fields, got, want)
	}
	if e.Size() != p.size() {
		t.Fatalf("Write(%.200v): size %d, want %d", fields, e.Size(), p.size())
	}
	return got
}

// restricts fails, unless both encoders answer the same to a limit.
func restricts(t testing.TB, e *Encoder, p *plainEncoder, most int) {
	t.Helper()
	if got, want := e.Limit(most), p.restrict(most); got != want {
		t.Fatalf("Limit(%d): %v, want %v", most, got, want)
	}
	if e.Size() != p.size() {
		t.Fatalf("Limit(%d): size %d, want %d", most, e.Size(), p.size())
	}
}

// sameTables fails, unless both ends have the same fields and rooms.
func sameTables(t testing.TB, a, b end) {
	t.Helper()
	if a.size() != b.size() || a.room() != b.room() || a.table.Len() != b.table.Len() {
		t.Fatalf("%d of %d in %d fields, and %d of %d in %d", a.size(), a.room(), a.table.Len(), b.size(), b.room(), b.table.Len())
	}
	for index := 62; index < 62+a.table.Len(); index++ {
		f, _ := a.at(index)
		if g, is := b.at(index); !is || f != g {
			t.Fatalf("at %d: %v and %v", index, f, g)
		}
	}
	if a.size() > a.room() || a.room() > 65536 {
		t.Fatalf("size %d, room %d", a.size(), a.room())
	}
}

func TestExamples(t *testing.T) {
	request := fieldsOf(":method: GET", ":scheme: http", ":path: /", ":authority: www.example.com")
	type write struct {
		limits []int
		fields []api.Field
		want   string
		size   int
	}
	for _, row := range [][]write{
		{
			{nil, request, "82 86 84 41 8C F1 E3 C2 E5 F2 3A 6B A0 AB 90 F4 FF", 57},
			{nil, append(request, field("cache-control", "no-cache")), "82 86 84 BE 58 86 A8 EB 10 64 9C BF", 110},
		},
		{{nil, fieldsOf("set-cookie: a"), "1F 28 01 61", 0}, {nil, fieldsOf(`etag: "a"`), "0F 13 03 22 61 22", 0}},
		{{[]int{0}, fieldsOf("x: y"), "20 00 01 78 01 79", 0}},
		{{[]int{0, 4096}, nil, "20 3F E1 1F", 0}},
	} {
		e, p := madeEncoder(t)
		for _, w := range row {
			for _, most := range w.limits {
				restricts(t, e, p, most)
			}
			if got := writes(t, e, p, w.fields...); got != bytesOf(t, w.want) || e.Size() != w.size {
				t.Errorf("Write(%v): %x, size %d", w.fields, got, e.Size())
			}
		}
	}
	type read struct {
		block  string
		fields []api.Field
		err    api.Errno
	}
	for _, c := range []struct {
		list  int
		reads []read
	}{
		{1000, []read{{"82", fieldsOf(":method: GET"), api.OK}, {"80", nil, api.ErrIndex}, {"82", nil, api.ErrIndex}}},
		{1000, []read{{"82 20", nil, api.ErrUpdate}}},
		{1000, []read{{"3F E2 1F", nil, api.ErrUpdate}}},
		{1000, []read{{"41", nil, api.ErrShort}}},
		{41, []read{{"82", nil, api.ErrList}, {"81", nil, api.ErrList}, {"00 01 78 01 79", fieldsOf("x: y"), api.OK}}},
	} {
		d, _ := madeDecoder(t, c.list)
		for _, r := range c.reads {
			if got, err := d.Read(bytesOf(t, r.block)); err != r.err || !slices.Equal(got, r.fields) {
				t.Errorf("list %d: Read(%s): %v, %v", c.list, r.block, got, err)
			}
		}
	}
}

// TestKnownBlocks reads blocks of RFC 7541, appendix C, and writes those that an encoder of this kind writes.
func TestKnownBlocks(t *testing.T) {
	type known struct {
		block  string
		fields []api.Field
		size   int
	}
	request := fieldsOf(":method: GET", ":scheme: http", ":path: /", ":authority: www.example.com")
	requests := [][]api.Field{
		request,
		append(slices.Clone(request), field("cache-control", "no-cache")),
		fieldsOf(":method: GET", ":scheme: https", ":path: /index.html", ":authority: www.example.com", "custom-key: custom-value"),
	}
	responses := [][]api.Field{
		fieldsOf(":status: 302", "cache-control: private", "date: Mon, 21 Oct 2013 20:13:21 GMT", "location: https://www.example.com"),
		fieldsOf(":status: 307", "cache-control: private", "date: Mon, 21 Oct 2013 20:13:21 GMT", "location: https://www.example.com"),
		fieldsOf(":status: 200", "cache-control: private", "date: Mon, 21 Oct 2013 20:13:22 GMT", "location: https://www.example.com", "content-encoding: gzip", "set-cookie: foo=ASDJKHQKBZXOQWEOPIUAXQWEOIU; max-age=3600; version=1"),
	}
	for name, row := range map[string][]known{
		"C.2.1": {{"400a 6375 7374 6f6d 2d6b 6579 0d63 7573 746f 6d2d 6865 6164 6572", fieldsOf("custom-key: custom-header"), 55}},
		"C.2.2": {{"040c 2f73 616d 706c 652f 7061 7468", fieldsOf(":path: /sample/path"), 0}},
		"C.2.3": {{"1008 7061 7373 776f 7264 0673 6563 7265 74", fieldsOf("password: secret"), 0}},
		"C.2.4": {{"82", fieldsOf(":method: GET"), 0}},
		"C.3": {
			{"8286 8441 0f77 7777 2e65 7861 6d70 6c65 2e63 6f6d", requests[0], 57},
			{"8286 84be 5808 6e6f 2d63 6163 6865", requests[1], 110},
			{"8287 85bf 400a 6375 7374 6f6d 2d6b 6579 0c63 7573 746f 6d2d 7661 6c75 65", requests[2], 164},
		},
		"C.4": {
			{"8286 8441 8cf1 e3c2 e5f2 3a6b a0ab 90f4 ff", requests[0], 57},
			{"8286 84be 5886 a8eb 1064 9cbf", requests[1], 110},
			{"8287 85bf 4088 25a8 49e9 5ba9 7d7f 8925 a849 e95b b8e8 b4bf", requests[2], 164},
		},
		"C.6": { // behind an update to 256
			{"3fe1 01 4882 6402 5885 aec3 771a 4b61 96d0 7abe 9410 54d4 44a8 2005 9504 0b81 66e0 82a6 2d1b ff6e 919d 29ad 1718 63c7 8f0b 97c8 e9ae 82ae 43d3", responses[0], 222},
			{"4883 640e ffc1 c0bf", responses[1], 222},
			{"88c1 6196 d07a be94 1054 d444 a820 0595 040b 8166 e084 a62d 1bff c05a 839b d9ab 77ad 94e7 821d d7f2 e6c7 b335 dfdf cd5b 3960 d5af 2708 7f36 72c1 ab27 0fb5 291f 9587 3160 65c0 03ed 4ee5 b106 3d50 07", responses[2], 215},
		},
	} {
		d, p := madeDecoder(t, 10000)
		e, _ := madeEncoder(t)
		for i, k := range row {
			block := bytesOf(t, k.block)
			got, err := d.Read(block)
			if err != api.OK || !slices.Equal(got, k.fields) || d.Size() != k.size {
				t.Errorf("%s.%d: %v, %v, size %d", name, i+1, got, err, d.Size())
			}
			p.read(block)
			if p.size() != k.size {
				t.Errorf("%s.%d: the plain size is %d", name, i+1, p.size())
			}
			if name == "C.4" && e.Write(k.fields...) != block {
				t.Errorf("%s.%d is written otherwise", name, i+1)
			}
		}
	}
}

func TestNewDecoder(t *testing.T) {
	for _, list := range []int{0, -1, math.MinInt} {
		if d, err := NewDecoder(list); d != nil || err != api.ErrArg {
			t.Errorf("NewDecoder(%d): %v, %v", list, d, err)
		}
	}
	for _, list := range []int{1, 2, 65536, math.MaxInt} {
		d, p := madeDecoder(t, list)
		if d.Size() != 0 || d.room() != 4096 {
			t.Error(d.Size(), d.room())
		}
		reads(t, d, p, "\x82")
		reads(t, d, p, "")
	}
	if e := NewEncoder(); e.Size() != 0 || e.room() != 4096 {
		t.Error(e.Size(), e.room())
	}
}

func TestNil(t *testing.T) {
	var d *Decoder
	for _, most := range []int{-1, 0, 4096, 65537} {
		if err := d.Limit(most); err != api.ErrNil {
			t.Error(most, err)
		}
	}
	for _, block := range []string{"", "\x82", "\x80"} {
		if got, err := d.Read(block); got != nil || err != api.ErrNil {
			t.Error(got, err)
		}
	}
	var e *Encoder
	for _, most := range []int{-1, 0, 4096, 4294967296} {
		if err := e.Limit(most); err != api.ErrNil {
			t.Error(most, err)
		}
	}
	if e.Write() != "" || e.Write(field("a", "b"), field(":method", "GET")) != "" {
		t.Error("a nil encoder writes")
	}
	if d.Size() != 0 || e.Size() != 0 {
		t.Error(d.Size(), e.Size())
	}
}

func TestDecoderLimit(t *testing.T) {
	update := func(room int) string {
		s, err := prim.Int(0x20, 5, room)
		if err != api.OK {
			t.Fatal(err)
		}
		return s
	}
	for _, most := range []int{0, 1, 31, 4095, 4096, 4097, 65535, 65536} {
		for _, late := range []int{-1, 65537, math.MinInt, math.MaxInt} {
			d, p := madeDecoder(t, 1000)
			if err := d.Limit(most); err != api.OK {
				t.Errorf("Limit(%d): %v", most, err)
			}
			p.restrict(most)
			if err := d.Limit(late); err != api.ErrRange {
				t.Errorf("Limit(%d): %v", late, err)
			}
			// The limit itself is within it, one more is not.
			reads(t, d, p, update(most))
			if d.room() != most {
				t.Errorf("room %d, want %d", d.room(), most)
			}
			reads(t, d, p, "\x82")
			if got, err := d.Read(update(most + 1)); got != nil || err != api.ErrUpdate {
				t.Errorf("an update to one more than %d: %v, %v", most, got, err)
			}
			if err := d.Limit(most); err != api.OK {
				t.Errorf("Limit(%d) of a decoder that reads no more: %v", most, err)
			}
		}
	}
}

func TestUpdatesThatAreWanted(t *testing.T) {
	for _, c := range []struct {
		limits []int
		block  string
		err    api.Errno
	}{
		{[]int{4096}, "82", api.OK},
		{[]int{4095}, "82", api.ErrUpdate},
		{[]int{4095}, "", api.OK},
		{[]int{4095}, "80", api.ErrUpdate},          // goes ahead of the index
		{[]int{4095}, "40", api.ErrUpdate},          // and of the texts
		{[]int{4095}, "FF", api.ErrShort},           // but not of the number
		{[]int{4095}, "00 00 00", api.ErrUpdate},    // a field in whatever form
		{[]int{4095}, "10 00 00", api.ErrUpdate},    //
		{[]int{4095}, "40 00 00", api.ErrUpdate},    //
		{[]int{4095}, "3F E0 1F 82", api.OK},        // 4095
		{[]int{4095}, "3F E1 1F 82", api.ErrUpdate}, // 4096
		{[]int{4095}, "20 82", api.OK},
		{[]int{4095}, "20 3F E0 1F 82", api.OK},
		{[]int{4095}, "20 3F E1 1F 82", api.ErrUpdate},
		{[]int{0}, "21 20", api.ErrUpdate}, // each update is within the limit
		{[]int{0}, "20 20 20 82", api.OK},
		{[]int{0, 4096}, "82", api.OK}, // the limit is not less than the room any more
		{[]int{65536}, "82", api.OK},
		{[]int{65536}, "3F E1 FF 03 82", api.OK}, // 65536
		{[]int{65536, 4096}, "82", api.OK},
	} {
		d, p := madeDecoder(t, 1000)
		for _, most := range c.limits {
			if err := d.Limit(most); err != api.OK {
				t.Error(most, err)
			}
			p.restrict(most)
		}
		if _, err := d.Read(bytesOf(t, c.block)); err != c.err {
			t.Errorf("limits %v: Read(%s): %v, want %v", c.limits, c.block, err, c.err)
		}
		if _, err := p.read(bytesOf(t, c.block)); err != c.err {
			t.Errorf("limits %v: plainly %s: %v, want %v", c.limits, c.block, err, c.err)
		}
	}
}

func TestRefusals(t *testing.T) {
	for _, c := range []struct {
		block string
		err   api.Errno
	}{
		{"80", api.ErrIndex},
		{"BE", api.ErrIndex},                       // 62
		{"BD", api.OK},                             // 61
		{"FF", api.ErrShort},                       // a number that does not end
		{"7F", api.ErrShort},                       //
		{"3F", api.ErrShort},                       //
		{"1F", api.ErrShort},                       //
		{"0F", api.ErrShort},                       //
		{"FF 80 80 80 80 80", api.ErrNumber},       // one byte too long
		{"FF FF FF FF FF 07", api.ErrNumber},       // too great
		{"FF 80 FF FF FF 07", api.ErrIndex},        // 2147483647, with 7 bits
		{"3F E0 FF FF FF 07", api.ErrUpdate},       // 2147483647, with 5 bits
		{"3F E1 FF FF FF 07", api.ErrNumber},       // one more
		{"82 3F E1 FF FF FF 07", api.ErrNumber},    // the number goes ahead of its place
		{"82 20", api.ErrUpdate},                   //
		{"00 00 00 20", api.ErrUpdate},             // behind a field in whatever form
		{"10 00 00 20", api.ErrUpdate},             //
		{"40 00 00 20", api.ErrUpdate},             //
		{"82 3F E2 1F", api.ErrUpdate},             //
		{"20 21 22 3F E1 1F", api.OK},              //
		{"7E 00", api.ErrIndex},                    // 62, with 6 bits
		{"7D 00", api.OK},                          //
		{"7E", api.ErrIndex},                       // the index goes ahead of the text
		{"0F 2F", api.ErrIndex},                    // 62, with 4 bits
		{"1F 2F", api.ErrIndex},                    //
		{"0F 2E 00", api.OK},                       //
		{"1F 2E 00", api.OK},                       //
		{"41", api.ErrShort},                       // no value
		{"40", api.ErrShort},                       // no name
		{"40 01", api.ErrShort},                    // a name that ends too early
		{"40 01 61", api.ErrShort},                 // no value
		{"40 01 61 02 62", api.ErrShort},           // a value that ends too early
		{"00 7F FF FF FF FF 07", api.ErrNumber},    // a name's length that is too great
		{"00 7F 80 FF FF FF 07", api.ErrShort},     // 2147483647
		{"00 00 7F FF FF FF FF 07", api.ErrNumber}, // a value's
		{"00 81 06 00", api.ErrPad},                // a name
		{"00 00 81 06", api.ErrPad},                // a value
		{"41 81 06", api.ErrPad},                   //
		{"00 84 FF FF FF FF 00", api.ErrEnd},       // a name
		{"01 84 FF FF FF FF", api.ErrEnd},          // a value
		{"00 81 06 7F FF FF FF FF 07", api.ErrPad}, // the name goes ahead of the value
		{"82 82 82 80 FF", api.ErrIndex},           // the first one that is wrong
		{"82 82 82 FF FF FF FF FF FF", api.ErrNumber},
		{"20 BE", api.ErrIndex},
	} {
		block := bytesOf(t, c.block)
		d, p := madeDecoder(t, 1000)
		got, err := d.Read(block)
		if err != c.err || err != api.OK && got != nil {
			t.Errorf("Read(%s): %v, %v, want %v", c.block, got, err, c.err)
		}
		if _, err := p.read(block); err != c.err {
			t.Errorf("plainly %s: %v, want %v", c.block, err, c.err)
		}
		if c.err == api.OK {
			continue
		}
		// Whatever comes then, that error is the answer, also if another one applies.
		for _, later := range []string{"", "\x82", "\x80", "\x82\x20", "\xff", block} {
			if got, err := d.Read(later); got != nil || err != c.err {
				t.Errorf("Read(%s), then %x: %v, %v, want %v", c.block, later, got, err, c.err)
			}
		}
	}
}

// TestRefusedBlocksChangeNothing: the size is the one that it was ahead of the block, and the table is left to nobody.
func TestRefusedBlocksChangeNothing(t *testing.T) {
	for _, block := range []string{"\x40\x01c\x01d\x80", "\x20\x80", "\x40\x01c\x01d\x20", "\x20\x3f\xe1\x1f\x40\x01c\x01d\xc0", "\xff"} {
		d, p := madeDecoder(t, 1000)
		reads(t, d, p, "\x40\x01a\x01b")
		reads(t, d, p, block)
		if d.Size() != 34 || d.table != nil {
			t.Errorf("%x: size %d, table %v", block, d.Size(), d.table)
		}
		if d.Limit(0) != api.OK || d.Limit(65537) != api.ErrRange || d.Size() != 34 {
			t.Errorf("%x: behind a limit size %d", block, d.Size())
		}
		reads(t, d, p, "")
	}
}

// pieces are representations of all kinds, most of them whole ones.
func pieces(t testing.TB) []string {
	var out []string
	for _, digits := range []string{
		"82", "84", "BD", "BE", "BF", "C0", "80", "20", "3F 03", "3F 23", "3F E1 1F", "3F E2 1F",
		"40 01 61 01 62", "40 00 00", "41 01 61", "7E 01 78", "7F 00 01 79", "40 81 1F 81 8F",
		"00 01 61 01 62", "01 00", "0F 2F 01 78", "10 01 61 01 62", "14 01 2F", "1F 2F 00",
		"40 01 6C 1E 76 76 76 76 76 76 76 76 76 76 76 76 76 76 76 76 76 76 76 76 76 76 76 76 76 76 76 76 76 76",
		"41", "7F",
	} {
		out = append(out, bytesOf(t, digits))
	}
	return out
}

func TestEachShortBlock(t *testing.T) {
	const alphabet = "\x82\xbe\xbf\x80\x40\x41\x7e\x00\x01\x10\x20\x21\x3f\xff\x7f"
	d, p := madeDecoder(t, 80)
	for _, block := range allTexts(alphabet, 4) {
		fresh, plain := *d, *p
		fresh.end = newEnd()
		reads(t, &fresh, &plain, block)
		reads(t, &fresh, &plain, "\xbe")
	}
	for b := range 1 << 16 {
		fresh, plain := *d, *p
		fresh.end = newEnd()
		reads(t, &fresh, &plain, string([]byte{byte(b >> 8), byte(b)}))
	}
}

// TestRowsOfPieces reads all rows of three pieces, and each of them also as three blocks, with a table that has something in it already.
func TestRowsOfPieces(t *testing.T) {
	all := pieces(t)
	eachRow(len(all), 3, func(row []int) {
		one, plainOne := madeDecoder(t, 120)
		each, plainEach := madeDecoder(t, 120)
		before := "\x40\x01a\x01b\x40\x01c\x00"
		reads(t, one, plainOne, before)
		reads(t, each, plainEach, before)
		block := ""
		for _, i := range row {
			block += all[i]
			reads(t, each, plainEach, all[i])
		}
		reads(t, one, plainOne, block)
		reads(t, one, plainOne, "\xbe\xbf")
		reads(t, each, plainEach, "\xbe")
	})
}

// TestLongRowsOfBlocks reads many blocks, with limits between them.
func TestLongRowsOfBlocks(t *testing.T) {
	all := pieces(t)
	limits := []int{0, 34, 66, 4096, 4097, 65536, -1, 65537}
	for seed := range uint64(3000) {
		next := numbers(seed)
		d, p := madeDecoder(t, 100+next(400))
		for p.err == api.OK && len(p.fields) < 300 {
			block := ""
			if p.limit < p.room || next(10) == 0 {
				update, err := prim.Int(0x20, 5, next(p.limit+1))
				if err != api.OK {
					t.Fatal(err)
				}
				block = update
			}
			for range next(6) {
				block += all[next(len(all))]
			}
			reads(t, d, p, block)
			if p.err == api.OK {
				sameTables(t, d.end, d.end)
				if d.room() != p.room || d.table.Len() != len(p.fields)-61 {
					t.Fatal(d.room(), p.room)
				}
			}
			if next(5) == 0 {
				most := limits[next(len(limits))]
				if got, want := d.Limit(most), p.restrict(most); got != want {
					t.Fatalf("Limit(%d): %v", most, got)
				}
			}
		}
		reads(t, d, p, "\x82")
	}
}

func TestList(t *testing.T) {
	// a: b weighs 34, :method GET 42, :authority 42.
	for _, c := range []struct {
		list  int
		block string
		err   api.Errno
	}{
		{1, "", api.OK}, {1, "20", api.OK}, {1, "82", api.ErrList},
		{42, "82", api.OK}, {41, "82", api.ErrList},
		{42, "81", api.OK}, {41, "81", api.ErrList},
		{34, "40 01 61 01 62", api.OK}, {33, "40 01 61 01 62", api.ErrList},
		{34, "00 01 61 01 62", api.OK}, {33, "00 01 61 01 62", api.ErrList},
		{34, "10 01 61 01 62", api.OK}, {33, "10 01 61 01 62", api.ErrList},
		{68, "40 01 61 01 62 BE", api.OK}, {67, "40 01 61 01 62 BE", api.ErrList},
		{126, "82 82 82", api.OK}, {125, "82 82 82", api.ErrList},
		{32, "00 00 00", api.OK}, {31, "00 00 00", api.ErrList},
		{126, "82 82 82 82", api.ErrList}, {1, "82 82 80", api.ErrIndex}, // an error goes ahead of the list
		{1, "82 20", api.ErrUpdate},
		{36, "00 81 1F 82 1C 64", api.OK}, // a text counts as what it says, not as its bytes
	} {
		d, p := madeDecoder(t, c.list)
		if _, err := p.read(bytesOf(t, c.block)); err != c.err {
			t.Errorf("list %d: plainly %s: %v", c.list, c.block, err)
		}
		if _, err := d.Read(bytesOf(t, c.block)); err != c.err {
			t.Errorf("list %d: Read(%s): %v, want %v", c.list, c.block, err, c.err)
		}
	}
}

// TestListsThatAreTooGreat: they change the table as others do, and the decoder goes on.
func TestListsThatAreTooGreat(t *testing.T) {
	for seed := range uint64(200) {
		next := numbers(seed)
		e := NewEncoder()
		wide, _ := madeDecoder(t, math.MaxInt)
		narrow, _ := madeDecoder(t, 1)
		middle, plain := madeDecoder(t, 150)
		for range 30 {
			if next(5) == 0 {
				most := next(300)
				for _, err := range []api.Errno{e.Limit(most), wide.Limit(most), narrow.Limit(most), middle.Limit(most), plain.restrict(most)} {
					if err != api.OK {
						t.Fatal(err)
					}
				}
			}
			var fields []api.Field
			for range next(4) {
				fields = append(fields, field(strings.Repeat("n", next(5)), strings.Repeat("v", next(60))))
			}
			block := e.Write(fields...)
			if got, err := wide.Read(block); err != api.OK || !slices.Equal(got, fields) {
				t.Fatalf("%v, %v, want %v", got, err, fields)
			}
			got, err := narrow.Read(block)
			if want := map[bool]api.Errno{true: api.OK, false: api.ErrList}[len(fields) == 0]; got != nil || err != want {
				t.Fatalf("%v, %v, want %v", got, err, want)
			}
			reads(t, middle, plain, block)
			sameTables(t, wide.end, e.end)
			sameTables(t, narrow.end, e.end)
			sameTables(t, middle.end, e.end)
		}
	}
}

// TestGatheredFields: fields of a list that is too great are not kept till its end.
func TestGatheredFields(t *testing.T) {
	got := gathered{most: 84}
	for i, want := range []int{1, 2, 0, 0} {
		got.take(field(":method", "GET"))
		if len(got.fields) != want || got.weight != (i+1)*42 {
			t.Errorf("field %d: %d fields, weight %d", i, len(got.fields), got.weight)
		}
	}
	d, _ := madeDecoder(t, 100)
	block := strings.Repeat("\x82", 1<<16)
	if used := testing.AllocsPerRun(5, func() {
		if got, err := d.Read(block); got != nil || err != api.ErrList {
			t.Error(got, err)
		}
	}); used > 10 {
		t.Errorf("%v allocations for a list of two fields", used)
	}
}

func TestEncoderLimit(t *testing.T) {
	for _, most := range []int{-1, 4294967296, math.MinInt, math.MaxInt} {
		e, p := madeEncoder(t)
		writes(t, e, p, field("a", "b"))
		restricts(t, e, p, 100)
		if err := e.Limit(most); err != api.ErrRange || e.Size() != 34 || e.room() != 100 {
			t.Errorf("Limit(%d): %v, size %d, room %d", most, err, e.Size(), e.room())
		}
		writes(t, e, p)
	}
	for _, c := range []struct{ most, room int }{
		{0, 0}, {1, 1}, {33, 33}, {34, 34}, {4095, 4095}, {4096, 4096}, {4097, 4096}, {65537, 4096}, {4294967295, 4096},
	} {
		e, p := madeEncoder(t)
		writes(t, e, p, field("a", "b"))
		restricts(t, e, p, c.most)
		if e.room() != c.room || e.Size() != map[bool]int{true: 34, false: 0}[c.room >= 34] {
			t.Errorf("Limit(%d): room %d, size %d", c.most, e.room(), e.Size())
		}
		writes(t, e, p, field("a", "b"))
	}
}

func TestUpdatesThatAreWritten(t *testing.T) {
	for _, c := range []struct {
		limits [][]int // ahead of each block
		want   []string
	}{
		{[][]int{{}}, []string{""}},
		{[][]int{{4096}, {5000}, {4294967295}}, []string{"", "", ""}},
		{[][]int{{100}, {}, {100}}, []string{"3F 45", "", ""}},
		{[][]int{{4095}}, []string{"3F E0 1F"}},
		{[][]int{{100, 50}}, []string{"3F 13"}},       // the room is the least one
		{[][]int{{50, 100}}, []string{"3F 13 3F 45"}}, // it was less
		{[][]int{{100, 50, 100}}, []string{"3F 13 3F 45"}},
		{[][]int{{200, 50, 10, 30, 20}}, []string{"2A 34"}},
		{[][]int{{0, 4096}, {}, {}}, []string{"20 3F E1 1F", "", ""}},
		{[][]int{{0}, {}}, []string{"20", ""}},
		// The room was the last block's till it was changed.
		{[][]int{{100}, {200}}, []string{"3F 45", "3F 45 3F A9 01"}},
		{[][]int{{100}, {200, 50}}, []string{"3F 45", "3F 13"}},
		{[][]int{{100}, {50, 200}}, []string{"3F 45", "3F 13 3F A9 01"}},
		{[][]int{{100}, {200, 150}}, []string{"3F 45", "3F 45 3F 77"}},
		{[][]int{{100}, {200, 100}}, []string{"3F 45", ""}},
		{[][]int{{100}, {-1, 4294967296}}, []string{"3F 45", ""}},
		{[][]int{{30}, {31}, {0}, {30}}, []string{"3E", "3E 3F 00", "20", "20 3E"}},
	} {
		e, p := madeEncoder(t)
		d, _ := madeDecoder(t, 1000)
		for i, limits := range c.limits {
			for _, most := range limits {
				restricts(t, e, p, most)
			}
			block := writes(t, e, p)
			if block != bytesOf(t, c.want[i]) {
				t.Errorf("limits %v: block %d: %x, want %s", c.limits, i, block, c.want[i])
			}
			if got, err := d.Read(block); got != nil || err != api.OK {
				t.Errorf("limits %v: block %d: %v, %v", c.limits, i, got, err)
			}
			sameTables(t, d.end, e.end)
		}
	}
}

func TestKindsOfFields(t *testing.T) {
	secret := strings.Fields("authorization cookie proxy-authorization set-cookie")
	passing := strings.Fields(":path content-length content-range date etag last-modified location")
	ordinary := strings.Fields("Cookie COOKIE cookie2 cooki ETag Date :Path path set-cookie2 x expires age authorization- x-date content-type :status proxy-authenticate")
	first := func(e *Encoder, f api.Field) byte {
		kind, _ := split(e.Write(f)[0])
		return kind
	}
	for want, names := range map[byte][]string{never: secret, notAdded: passing, added: ordinary} {
		for _, name := range names {
			e, p := madeEncoder(t)
			f := field(name, "some value")
			if kind := first(e, f); kind != want {
				t.Errorf("%s: %x", name, kind)
			}
			p.write(t, f)
			size := map[bool]int{true: table.Weight(f), false: 0}[want == added]
			if e.Size() != size {
				t.Errorf("%s: size %d, want %d", name, e.Size(), size)
			}
			writes(t, e, p, f, f, field(name, ""), field(name, "/"), field(name, "other"), f)
		}
	}
	// A secret one is never indexed, even if the table has it whole; a passing one is.
	e, p := madeEncoder(t)
	for f, want := range map[api.Field]string{
		field("cookie", ""):           "1F 11 00",
		field("authorization", ""):    "1F 08 00",
		field("etag", ""):             "A2",
		field(":path", "/"):           "84",
		field(":path", "/index.html"): "85",
		field(":path", "/a"):          "04 02 2F 61",
		field("date", ""):             "A1",
	} {
		if got := writes(t, e, p, f); got != bytesOf(t, want) || e.Size() != 0 {
			t.Errorf("%v: %x, size %d", f, got, e.Size())
		}
	}
}

func TestFieldsAtTheRoom(t *testing.T) {
	for _, room := range []int{34, 35, 100, 4096} {
		e, p := madeEncoder(t)
		restricts(t, e, p, room)
		writes(t, e, p, field("a", "b"))
		// Of just the room: added, and all others are gone. Of one more: not added, and nothing is gone.
		fit := field("n", strings.Repeat("v", room-33))
		if block := writes(t, e, p, fit); block[0] != added && room != 34 || e.Size() != room {
			t.Errorf("room %d: %x, size %d", room, block, e.Size())
		}
		if block := writes(t, e, p, field("m", fit.Value+"v")); block[0] != notAdded || e.Size() != room {
			t.Errorf("room %d: %x, size %d", room, block, e.Size())
		}
		if block := writes(t, e, p, fit); block != "\xbe" {
			t.Errorf("room %d: %x", room, block)
		}
		// A name that the table has is an index also of a field that is not added.
		if block := writes(t, e, p, field("n", fit.Value+"v")); block[:2] != "\x0f\x2f" || e.Size() != room {
			t.Errorf("room %d: %x, size %d", room, block, e.Size())
		}
	}
}

// steps are what may be done to an encoder and a decoder alike.
func steps() []func(t testing.TB, e *Encoder, p *plainEncoder, d *Decoder) {
	limit := func(most int) func(testing.TB, *Encoder, *plainEncoder, *Decoder) {
		return func(t testing.TB, e *Encoder, p *plainEncoder, d *Decoder) {
			t.Helper()
			restricts(t, e, p, most)
			if err := d.Limit(min(most, 4096)); err != api.OK {
				t.Fatal(err)
			}
		}
	}
	write := func(fields ...api.Field) func(testing.TB, *Encoder, *plainEncoder, *Decoder) {
		return func(t testing.TB, e *Encoder, p *plainEncoder, d *Decoder) {
			t.Helper()
			block := writes(t, e, p, fields...)
			if got, err := d.Read(block); err != api.OK || !slices.Equal(got, fields) {
				t.Fatalf("Read(%x): %v, %v, want %v", block, got, err, fields)
			}
			if d.Size() != e.Size() {
				t.Fatalf("sizes %d and %d", d.Size(), e.Size())
			}
			sameTables(t, d.end, e.end)
		}
	}
	long := strings.Repeat("v", 40)
	return []func(testing.TB, *Encoder, *plainEncoder, *Decoder){
		limit(0), limit(34), limit(100), limit(4096), limit(4294967295),
		write(), write(field("a", "b")), write(field("a", "c"), field("a", "b")), write(field("", "")),
		write(field("x", long), field(":method", "PUT"), field("cookie", "b")), write(field(":path", "/a"), field(":path", "/"), field("a", "b")),
	}
}

// TestEachRowOfSteps does all rows of a few steps: what is written is read as the same, and both tables are the same.
func TestEachRowOfSteps(t *testing.T) {
	all := steps()
	eachRow(len(all), 4, func(row []int) {
		e, p := madeEncoder(t)
		d, _ := madeDecoder(t, 1000)
		for _, i := range row {
			all[i](t, e, p, d)
		}
	})
}

func TestLongRowsOfSteps(t *testing.T) {
	all := steps()
	for seed := range uint64(100) {
		next := numbers(seed)
		e, p := madeEncoder(t)
		d, _ := madeDecoder(t, 1000)
		for range 100 {
			all[next(len(all))](t, e, p, d)
		}
	}
}

// TestFieldsOfAnyBytes writes and reads fields of which nothing is asked but to be the same again.
func TestFieldsOfAnyBytes(t *testing.T) {
	e, p := madeEncoder(t)
	d, _ := madeDecoder(t, math.MaxInt)
	for seed := range uint64(300) {
		next := numbers(seed)
		var fields []api.Field
		for range next(10) {
			name, value := make([]byte, next(20)), make([]byte, next(200))
			for i := range name {
				name[i] = byte(next(256))
			}
			for i := range value {
				value[i] = byte(next(256))
			}
			fields = append(fields, field(string(name), string(value)))
		}
		fields = append(fields, field("long", strings.Repeat("text ", next(2000))))
		block := writes(t, e, p, fields...)
		if got, err := d.Read(block); err != api.OK || !slices.Equal(got, fields) {
			t.Fatalf("%v, want %v, %v", got, fields, err)
		}
		sameTables(t, d.end, e.end)
	}
}

// TestHowBlocksAreCut: fields in one block or in many leave the same tables.
func TestHowBlocksAreCut(t *testing.T) {
	fields := fieldsOf("a: b", ":method: GET", "cookie: x", "a: c", "date: now", "a: b", ": ", "x-long: "+strings.Repeat("v", 5000))
	whole, one := NewEncoder(), NewEncoder()
	block, parts := whole.Write(fields...), ""
	for _, f := range fields {
		parts += one.Write(f)
	}
	if block != parts {
		t.Errorf("%x, want %x", parts, block)
	}
	sameTables(t, whole.end, one.end)
}

func TestListsThatAreHandedIn(t *testing.T) {
	e, p := madeEncoder(t)
	fields := append(make([]api.Field, 0, 4), field("a", "b"), field("c", "d"))
	spare := fields[:4]
	spare[2], spare[3] = field("spare", "1"), field("spare", "2")
	writes(t, e, p, fields...)
	if !slices.Equal(spare, fieldsOf("a: b", "c: d", "spare: 1", "spare: 2")) {
		t.Error(spare)
	}
	spare[0] = field("other", "one")
	if block := writes(t, e, p, field("a", "b"), field("c", "d")); block != "\xbf\xbe" {
		t.Errorf("%x", block)
	}
}

func TestListsThatComeOut(t *testing.T) {
	d, p := madeDecoder(t, 1000)
	block := "\x40\x01a\x01b\x82\xbe"
	got, _ := d.Read(block)
	again, _ := d.Read("\xbe\xbe")
	for i := range again {
		again[i] = field("written", "over")
	}
	_ = append(got[:1], field("written", "over"))
	p.read(block)
	p.read("\xbe\xbe")
	reads(t, d, p, "\xbe\x82")
	if want := fieldsOf("a: b", "written: over", "a: b"); !slices.Equal(got, want) {
		t.Error(got)
	}
}

func TestEndsKnowNothingOfOneAnother(t *testing.T) {
	a, plainA := madeEncoder(t)
	b, plainB := madeEncoder(t)
	c, plainC := madeDecoder(t, 1000)
	d, plainD := madeDecoder(t, 1000)
	for range 3 {
		reads(t, c, plainC, writes(t, a, plainA, field("a", "b"), field("c", "d")))
		restricts(t, b, plainB, 50)
		reads(t, d, plainD, writes(t, b, plainB, field("e", "f")))
	}
	reads(t, d, plainD, "\x80")
	reads(t, c, plainC, "\xbe")
}
