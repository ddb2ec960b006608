package table

import (
	"math"
	"reflect"
	"strconv"
	"strings"
	"testing"
	"unsafe"

	"ostler/api"
)

// chapter is the table of static fields as the chapter has it.
const chapter = `
| 1 | :authority |  |
| 2 | :method | GET |
| 3 | :method | POST |
| 4 | :path | / |
| 5 | :path | /index.html |
| 6 | :scheme | http |
| 7 | :scheme | https |
| 8 | :status | 200 |
| 9 | :status | 204 |
| 10 | :status | 206 |
| 11 | :status | 304 |
| 12 | :status | 400 |
| 13 | :status | 404 |
| 14 | :status | 500 |
| 15 | accept-charset |  |
| 16 | accept-encoding | gzip, deflate |
| 17 | accept-language |  |
| 18 | accept-ranges |  |
| 19 | accept |  |
| 20 | access-control-allow-origin |  |
| 21 | age |  |
| 22 | allow |  |
| 23 | authorization |  |
| 24 | cache-control |  |
| 25 | content-disposition |  |
| 26 | content-encoding |  |
| 27 | content-language |  |
| 28 | content-length |  |
| 29 | content-location |  |
| 30 | content-range |  |
| 31 | content-type |  |
| 32 | cookie |  |
| 33 | date |  |
| 34 | etag |  |
| 35 | expect |  |
| 36 | expires |  |
| 37 | from |  |
| 38 | host |  |
| 39 | if-match |  |
| 40 | if-modified-since |  |
| 41 | if-none-match |  |
| 42 | if-range |  |
| 43 | if-unmodified-since |  |
| 44 | last-modified |  |
| 45 | link |  |
| 46 | location |  |
| 47 | max-forwards |  |
| 48 | proxy-authenticate |  |
| 49 | proxy-authorization |  |
| 50 | range |  |
| 51 | referer |  |
| 52 | refresh |  |
| 53 | retry-after |  |
| 54 | server |  |
| 55 | set-cookie |  |
| 56 | strict-transport-security |  |
| 57 | transfer-encoding |  |
| 58 | user-agent |  |
| 59 | vary |  |
| 60 | via |  |
| 61 | www-authenticate |  |
`

// chapterFields are the static fields, the one of index 1 at place 0.
func chapterFields(t testing.TB) []api.Field {
	t.Helper()
	var out []api.Field
	for _, row := range strings.Split(strings.TrimSpace(chapter), "\n") {
		cells := strings.Split(row, "|")
		if index, err := strconv.Atoi(strings.TrimSpace(cells[1])); err != nil || index != len(out)+1 {
			t.Fatal(row)
		}
		out = append(out, field(strings.TrimSpace(cells[2]), strings.TrimSpace(cells[3])))
	}
	return out
}

func field(name, value string) api.Field { return api.Field{Name: name, Value: value} }

// plainTable says what the chapter says, with nothing worked out ahead.
type plainTable struct {
	static []api.Field
	newest []api.Field // the dynamic part, the newest one first
	room   int
}

func (p *plainTable) size() int {
	sum := 0
	for _, f := range p.newest {
		sum += 32 + len(f.Name+f.Value)
	}
	return sum
}

func (p *plainTable) shrink(size int) {
	for p.size() > size {
		p.newest = p.newest[:len(p.newest)-1]
	}
}

func (p *plainTable) add(f api.Field) {
	weight := 32 + len(f.Name+f.Value)
	if weight > p.room {
		p.newest = nil
		return
	}
	p.shrink(p.room - weight)
	p.newest = append([]api.Field{f}, p.newest...)
}

func (p *plainTable) resize(most int) api.Errno {
	if most < 0 || most > 65536 {
		return api.ErrRange
	}
	p.room = most
	p.shrink(most)
	return api.OK
}

func (p *plainTable) at(index int) (api.Field, bool) {
	switch dynamic := index - 62; {
	case 1 <= index && index <= 61:
		return p.static[index-1], true
	case 0 <= dynamic && dynamic < len(p.newest):
		return p.newest[dynamic], true
	}
	return api.Field{}, false
}

// find asks for each of the three answers by itself, from the last index down.
func (p *plainTable) find(f api.Field) (int, bool) {
	whole, named := 0, 0
	for index := len(p.static) + len(p.newest); index > 0; index-- {
		g, _ := p.at(index)
		if g.Name == f.Name && g.Value == f.Value {
			whole = index
		}
		if g.Name == f.Name {
			named = index
		}
	}
	if whole > 0 {
		return whole, true
	}
	return named, false
}

// same holds all that a table answers against the plain one.
func same(t *testing.T, x *Table, p *plainTable, probes []api.Field) {
	t.Helper()
	if x.Size() != p.size() || x.Most() != p.room || x.Len() != len(p.newest) {
		t.Fatalf("size %d, room %d, %d fields: want %d, %d, %d", x.Size(), x.Most(), x.Len(), p.size(), p.room, len(p.newest))
	}
	sum := 0
	for index := 60; index <= 62+len(p.newest)+1; index++ {
		got, is := x.At(index)
		if want, there := p.at(index); got != want || is != there {
			t.Fatalf("At(%d): %v %v, want %v %v", index, got, is, want, there)
		}
		if is && index >= 62 {
			sum += Weight(got)
		}
	}
	if x.Size() != sum || x.Size() > x.Most() {
		t.Fatalf("size %d of a room of %d, but the fields weigh %d", x.Size(), x.Most(), sum)
	}
	for _, f := range probes {
		got, whole := x.Find(f)
		if want, is := p.find(f); got != want || whole != is {
			t.Fatalf("Find(%v): %d %v, want %d %v", f, got, whole, want, is)
		}
		if g, _ := x.At(got); whole && g != f {
			t.Fatalf("Find(%v) whole at %d, where %v stands", f, got, g)
		}
	}
}

// made is a new table of a room, and the plain one.
func made(t testing.TB, most int) (*Table, *plainTable) {
	t.Helper()
	x, err := New(most)
	if x == nil || err != api.OK {
		t.Fatalf("New(%d): %v", most, err)
	}
	return x, &plainTable{static: chapterFields(t), room: most}
}

func TestExamples(t *testing.T) {
	x, _ := made(t, 100)
	at := func(index int, want api.Field, there bool) {
		t.Helper()
		if f, is := x.At(index); f != want || is != there {
			t.Errorf("At(%d): %v %v", index, f, is)
		}
	}
	size := func(want int) {
		t.Helper()
		if x.Size() != want {
			t.Errorf("size %d, want %d", x.Size(), want)
		}
	}
	x.Add(field("a", "b"))
	size(34)
	at(62, field("a", "b"), true)
	at(63, api.Field{}, false)
	x.Add(field("c", ""))
	size(67)
	x.Add(field("d", "e"))
	size(67)
	at(62, field("d", "e"), true)
	at(63, field("c", ""), true)
	at(64, api.Field{}, false)
	x.Add(field(strings.Repeat("n", 69), ""))
	if x.Len() != 0 {
		t.Error(x.Len())
	}
	at(2, field(":method", "GET"), true)
	at(61, field("www-authenticate", ""), true)
	at(0, api.Field{}, false)
	at(-1, api.Field{}, false)
	for _, c := range []struct {
		f     api.Field
		index int
		whole bool
	}{{field(":method", "POST"), 3, true}, {field(":method", "PUT"), 2, false}, {field("accept", ""), 19, true}, {field("x", "1"), 0, false}} {
		if index, whole := x.Find(c.f); index != c.index || whole != c.whole {
			t.Errorf("Find(%v): %d %v", c.f, index, whole)
		}
	}
	if y, err := New(65537); y != nil || err != api.ErrRange {
		t.Error(y, err)
	}
	if err := x.Resize(-1); err != api.ErrRange {
		t.Error(err)
	}
}

// holdRing holds a row against a plain one, whose front is at place 0.
func holdRing[T any](t *testing.T, r *Ring[T], plain []T) {
	t.Helper()
	if r.Len() != len(plain) {
		t.Fatalf("%d in the row, want %d", r.Len(), len(plain))
	}
	for i, want := range plain {
		if x, is := r.At(i); !is || !reflect.DeepEqual(x, want) {
			t.Fatalf("At(%d) of %d: %v %v, want %v", i, len(plain), x, is, want)
		}
	}
	var none T
	for _, i := range []int{-1, -2, len(plain), len(plain) + 1, -len(plain) - 1, math.MaxInt, math.MinInt} {
		if x, is := r.At(i); is || !reflect.DeepEqual(x, none) {
			t.Fatalf("At(%d) of %d: %v %v", i, len(plain), x, is)
		}
	}
}

// pushed and popped do one thing with both rows.
func pushed[T any](r *Ring[T], plain []T, x T) []T {
	r.Push(x)
	return append([]T{x}, plain...)
}

func popped[T any](t *testing.T, r *Ring[T], plain []T) []T {
	t.Helper()
	x, is := r.Pop()
	if len(plain) == 0 {
		var none T
		if is || !reflect.DeepEqual(x, none) {
			t.Fatalf("Pop of an empty row: %v %v", x, is)
		}
		return plain
	}
	last := len(plain) - 1
	if !is || !reflect.DeepEqual(x, plain[last]) {
		t.Fatalf("Pop: %v %v, want %v", x, is, plain[last])
	}
	return plain[:last]
}

func TestRingOfEachRow(t *testing.T) {
	const steps = 11
	for row := range 1 << steps {
		r := NewRing[string]()
		var plain []string
		for step := range steps {
			if row>>step&1 == 1 {
				plain = pushed(r, plain, strconv.Itoa(step))
			} else {
				plain = popped(t, r, plain)
			}
			holdRing(t, r, plain)
		}
	}
}

// anyRing pushes and pops, often enough that the row grows and shrinks some times.
func anyRing[T any](t *testing.T, of func(i int) T) {
	t.Helper()
	r := NewRing[T]()
	var plain []T
	holdRing(t, r, plain)
	for i := range 600 {
		if grows := i/100%2 == 0; grows || i%3 == 0 {
			plain = pushed(r, plain, of(i))
		} else {
			plain = popped(t, r, plain)
		}
		holdRing(t, r, plain)
	}
	for range len(plain) + 2 {
		plain = popped(t, r, plain)
	}
	holdRing(t, r, plain)
	plain = pushed(r, plain, of(7))
	holdRing(t, r, plain)
}

func TestRingOfAnything(t *testing.T) {
	anyRing(t, func(i int) int { return i })
	anyRing(t, strconv.Itoa)
	anyRing(t, func(i int) api.Field { return field(strconv.Itoa(i), "v") })
	anyRing(t, func(i int) []int { return []int{i, i} })
	anyRing(t, func(i int) *int { return &i })
	anyRing(t, func(int) struct{} { return struct{}{} })
	anyRing(t, func(i int) any {
		if i%5 == 0 {
			return nil
		}
		return i
	})
	anyRing(t, func(i int) [3]byte { return [3]byte{byte(i), 1, 2} })
}

func TestRingKeepsNothingThatIsOut(t *testing.T) {
	r := NewRing[*int]()
	one, two := 1, 2
	r.Push(&one)
	r.Push(&two)
	places := r.items
	r.Pop()
	if places[0] != nil || places[1] != &two {
		t.Error("the row holds on to what was taken out")
	}
	r.Pop()
	if places[1] != nil || r.items != nil {
		t.Error("an empty row holds memory")
	}
	long := NewRing[int]()
	for i := range 100000 {
		long.Push(i)
		if i >= 10 {
			long.Pop()
		}
		if cap(long.items) > 64 {
			t.Fatalf("places for %d, %d of them taken", cap(long.items), long.Len())
		}
	}
}

func TestRingsKnowNothingOfEachOther(t *testing.T) {
	a, b := NewRing[int](), NewRing[int]()
	var plainA, plainB []int
	for i := range 200 {
		plainA = pushed(a, plainA, i)
		if i%2 == 0 {
			plainB = pushed(b, plainB, -i)
		}
		if i%3 == 0 {
			plainA = popped(t, a, plainA)
		}
		holdRing(t, a, plainA)
		holdRing(t, b, plainB)
	}
}

func TestNilRing(t *testing.T) {
	var r *Ring[string]
	r.Push("x")
	for _, i := range []int{-1, 0, 1} {
		if x, is := r.At(i); x != "" || is {
			t.Error(i, x, is)
		}
	}
	if x, is := r.Pop(); x != "" || is || r.Len() != 0 {
		t.Error(x, is)
	}
}

func TestNilTable(t *testing.T) {
	var x *Table
	x.Add(field("a", "b"))
	for _, most := range []int{math.MinInt, -1, 0, 100, 65536, 65537, math.MaxInt} {
		if err := x.Resize(most); err != api.ErrNil {
			t.Error(most, err)
		}
	}
	for _, index := range []int{-1, 0, 1, 2, 61, 62, 63} {
		if f, is := x.At(index); f != (api.Field{}) || is {
			t.Error(index, f, is)
		}
	}
	for _, f := range []api.Field{{}, field("a", "b"), field(":method", "GET"), field(":method", "PUT")} {
		if index, whole := x.Find(f); index != 0 || whole {
			t.Error(f, index, whole)
		}
	}
	if x.Size() != 0 || x.Most() != 0 || x.Len() != 0 {
		t.Error(x.Size(), x.Most(), x.Len())
	}
}

func TestNew(t *testing.T) {
	for _, most := range []int{0, 1, 31, 32, 4096, 65535, 65536} {
		x, p := made(t, most)
		same(t, x, p, []api.Field{{}, field("a", "b"), field("accept", "")})
	}
	for _, most := range []int{-1, 65537, 1 << 32, math.MinInt, math.MaxInt} {
		if x, err := New(most); x != nil || err != api.ErrRange {
			t.Errorf("New(%d): %v %v", most, x, err)
		}
	}
}

func TestWeight(t *testing.T) {
	for _, c := range []struct {
		f    api.Field
		want int
	}{
		{api.Field{}, 32},
		{field("a", ""), 33},
		{field("", "a"), 33},
		{field(":method", "GET"), 42},
		{field("é", "\x00\xff"), 36}, // bytes, not letters
		{field(strings.Repeat("n", 70000), strings.Repeat("v", 3)), 70035},
	} {
		if got := Weight(c.f); got != c.want {
			t.Errorf("Weight(%.20v): %d, want %d", c.f, got, c.want)
		}
	}
}

func TestStaticFields(t *testing.T) {
	fields := chapterFields(t)
	if len(fields) != 61 {
		t.Fatal(len(fields))
	}
	x, p := made(t, 4096)
	for range 3 {
		var probes []api.Field
		for i, f := range fields {
			if got, is := x.At(i + 1); got != f || !is {
				t.Errorf("At(%d): %v %v, want %v", i+1, got, is, f)
			}
			probes = append(probes, f, field(f.Name, "other"), field(f.Name, ""), field(f.Name+"x", f.Value), field(strings.ToUpper(f.Name), f.Value))
		}
		same(t, x, p, probes)
		// Nothing in the dynamic part hides a static field.
		x.Add(field("accept", ""))
		p.add(field("accept", ""))
		x.Add(field(":method", "PUT"))
		p.add(field(":method", "PUT"))
	}
}

func TestAtBeyond(t *testing.T) {
	x, _ := made(t, 4096)
	x.Add(field("a", "b"))
	for _, index := range []int{math.MinInt, math.MinInt + 61, -62, -1, 0, 63, 64, 1 << 32, math.MaxInt} {
		if f, is := x.At(index); is || f != (api.Field{}) {
			t.Errorf("At(%d): %v %v", index, f, is)
		}
	}
}

// step is something that is done with both tables.
type step func(t *testing.T, x *Table, p *plainTable)

func adding(f api.Field) step {
	return func(_ *testing.T, x *Table, p *plainTable) {
		x.Add(f)
		p.add(f)
	}
}

func resizing(most int) step {
	return func(t *testing.T, x *Table, p *plainTable) {
		t.Helper()
		if got, want := x.Resize(most), p.resize(most); got != want {
			t.Fatalf("Resize(%d): %v, want %v", most, got, want)
		}
	}
}

// TestEachRowOfSteps does all rows of a few steps, whose weights and rooms lie at each other's borders.
func TestEachRowOfSteps(t *testing.T) {
	steps := []step{
		adding(api.Field{}), adding(field("a", "")), adding(field("a", "b")), adding(field("c", strings.Repeat("v", 32))), adding(field(strings.Repeat("n", 68), "")), adding(field(strings.Repeat("n", 69), "")),
		resizing(0), resizing(32), resizing(66), resizing(67), resizing(100), resizing(-1), resizing(65537),
	}
	probes := []api.Field{{}, field("a", ""), field("a", "b"), field("a", "x"), field("", "x"), field("c", "")}
	const long = 4
	rows := 1
	for range long {
		rows *= len(steps)
	}
	fields := chapterFields(t)
	for row := range rows {
		x, err := New(100)
		if err != api.OK {
			t.Fatal(err)
		}
		p := &plainTable{static: fields, room: 100}
		for range long {
			steps[row%len(steps)](t, x, p)
			row /= len(steps)
		}
		same(t, x, p, probes)
	}
}

// TestLongRows does many steps, all of which are looked at.
func TestLongRows(t *testing.T) {
	names := []string{"a", "b", "accept", ":method", ":path", "", "name-of-some-length", "via"}
	values := []string{"", "x", "GET", "/", strings.Repeat("v", 40), strings.Repeat("w", 300)}
	rooms := []int{0, 31, 32, 33, 100, 200, 400, 1000, 4096, 65536, -1, 65537}
	for seed := range uint64(20) {
		x, p := made(t, 500)
		number := seed
		next := func(n int) int {
			number = number*6364136223846793005 + 1442695040888963407
			return int(number>>33) % n
		}
		for range 400 {
			f := field(names[next(len(names))], values[next(len(values))])
			if next(8) == 0 {
				resizing(rooms[next(len(rooms))])(t, x, p)
			} else {
				adding(f)(t, x, p)
			}
			same(t, x, p, []api.Field{f, field(f.Name, "no such"), field("no such", f.Value), field(names[next(len(names))], values[next(len(values))])})
		}
	}
}

func TestAddAtTheRoom(t *testing.T) {
	for _, room := range []int{32, 33, 100, 4096, 65536} {
		for _, c := range []struct{ weight, fields int }{{room, 1}, {room + 1, 0}} {
			x, p := made(t, room)
			adding(field("", ""))(t, x, p)
			adding(field("", strings.Repeat("v", c.weight-32)))(t, x, p)
			if x.Len() != c.fields || x.Size() != c.fields*room {
				t.Errorf("a field of %d in a room of %d: %d fields, size %d", c.weight, room, x.Len(), x.Size())
			}
			same(t, x, p, []api.Field{{}})
		}
	}
	// Both fit, to the last byte; with one byte more the older one must go.
	for _, c := range []struct{ weight, fields int }{{50, 2}, {51, 1}, {49, 2}} {
		x, p := made(t, 100)
		adding(field("old", strings.Repeat("v", 15)))(t, x, p)
		adding(field("new", strings.Repeat("v", c.weight-35)))(t, x, p)
		if x.Len() != c.fields {
			t.Errorf("50 and %d in a room of 100: %d fields", c.weight, x.Len())
		}
		same(t, x, p, nil)
	}
}

func TestTheGreatestTable(t *testing.T) {
	x, _ := made(t, 65536)
	for range 3000 {
		x.Add(api.Field{})
	}
	if x.Len() != 2048 || x.Size() != 65536 {
		t.Error(x.Len(), x.Size())
	}
	x.Add(field("n", "v"))
	if x.Len() != 2047 || x.Size() != 2046*32+34 {
		t.Error(x.Len(), x.Size())
	}
	if index, whole := x.Find(api.Field{}); index != 63 || !whole {
		t.Error(index, whole)
	}
	if f, is := x.At(61 + 2047); !is || f != (api.Field{}) {
		t.Error(f, is)
	}
	if _, is := x.At(61 + 2048); is {
		t.Error("more fields than there are")
	}
}

func TestResize(t *testing.T) {
	x, p := made(t, 100)
	adding(field("a", "b"))(t, x, p)
	adding(field("c", ""))(t, x, p)
	probes := []api.Field{field("a", "b"), field("c", ""), field("c", "x")}
	// A wrong room changes nothing; the size itself takes nothing out; one less takes the oldest one.
	for _, c := range []struct {
		most   int
		err    api.Errno
		fields int
	}{
		{-1, api.ErrRange, 2}, {65537, api.ErrRange, 2}, {math.MinInt, api.ErrRange, 2}, {math.MaxInt, api.ErrRange, 2},
		{65536, api.OK, 2}, {67, api.OK, 2}, {66, api.OK, 1}, {33, api.OK, 1}, {32, api.OK, 0}, {100, api.OK, 0}, {0, api.OK, 0},
	} {
		if err := x.Resize(c.most); err != c.err || x.Len() != c.fields {
			t.Errorf("Resize(%d): %v, %d fields", c.most, err, x.Len())
		}
		p.resize(c.most)
		same(t, x, p, probes)
	}
	adding(api.Field{})(t, x, p)
	same(t, x, p, probes)
}

func TestFind(t *testing.T) {
	x, p := made(t, 4096)
	for _, f := range []api.Field{field("x", "1"), field("x", "2"), field("x", "1"), field("accept", "all"), field(":method", "PUT"), field("", ""), field("", "v"), field("y", "")} {
		adding(f)(t, x, p)
	}
	for _, c := range []struct {
		f     api.Field
		index int
		whole bool
	}{
		{field("y", ""), 62, true},
		{field("y", "v"), 62, false},
		{field("", "v"), 63, true},
		{field("", ""), 64, true},
		{field("", "w"), 63, false},
		{field(":method", "PUT"), 65, true},     // whole behind the static ones
		{field(":method", "DELETE"), 2, false},  // the name's least index is static
		{field("accept", "all"), 66, true},      // whole goes ahead of a lesser index by name
		{field("accept", ""), 19, true},         // a static field without a value
		{field("accept", "some"), 19, false},    // by name
		{field("x", "1"), 67, true},             // the newer one of two
		{field("x", "2"), 68, true},             // the one between
		{field("x", "3"), 67, false},            // the newest one by name
		{field("X", "1"), 0, false},             // a name is the same byte by byte
		{field("GET", ":method"), 0, false},     // the value is no name
		{field(":methodG", "ET"), 0, false},     // nor are both together one text
		{field(":status", "404"), 13, true},     // not the name's first one
		{field(":status", "404 "), 8, false},    // a value is the same byte by byte
		{field("accept-", "charset"), 0, false}, // a beginning is no name
	} {
		if index, whole := x.Find(c.f); index != c.index || whole != c.whole {
			t.Errorf("Find(%v): %d %v, want %d %v", c.f, index, whole, c.index, c.whole)
		}
		same(t, x, p, []api.Field{c.f})
	}
}

func TestAddKeepsNoGreaterText(t *testing.T) {
	great := strings.Repeat("text", 1000)
	x, _ := made(t, 100)
	x.Add(field(great[4:8], great[100:105]))
	f, is := x.At(62)
	if !is || f != field("text", "textt") {
		t.Fatal(f, is)
	}
	if unsafe.StringData(f.Name) == unsafe.StringData(great[4:8]) || unsafe.StringData(f.Value) == unsafe.StringData(great[100:105]) {
		t.Error("a field holds the text it was cut from")
	}
}

func TestTwoTablesAlike(t *testing.T) {
	a, plainA := made(t, 200)
	b, plainB := made(t, 200)
	other, plainOther := made(t, 300)
	for i := range 100 {
		f := field("n"+strconv.Itoa(i%7), strings.Repeat("v", i%50))
		adding(f)(t, a, plainA)
		adding(f)(t, b, plainB)
		adding(field("o", f.Value))(t, other, plainOther)
		if i%10 == 9 {
			resizing(i*3)(t, a, plainA)
			resizing(i*3)(t, b, plainB)
		}
		probes := []api.Field{f, field("n3", ""), field("o", "")}
		same(t, a, plainB, probes)
		same(t, b, plainA, probes)
		same(t, other, plainOther, probes)
	}
}
