package disk

import (
	"math"
	"slices"
	"sort"
	"strconv"
	"strings"
	"testing"

	"ostler/api"
)

const (
	longestPath   = 255
	longestBody   = 65536
	greatestCount = 1024
	lastSecond    = 253402300799
)

// numbers are some that look scattered, the same ones for the same seed.
func numbers(seed uint64) func(n int) int {
	return func(n int) int {
		seed = seed*6364136223846793005 + 1442695040888963407
		return int(seed>>33) % n
	}
}

// short is a text as a fault tells it.
func short(s string) string {
	if len(s) > 40 {
		return strconv.Quote(s[:40]) + " and more: " + strconv.Itoa(len(s)) + " bytes"
	}
	return strconv.Quote(s)
}

func wantPath(t *testing.T, path string, want bool) {
	t.Helper()
	if is := Path(path); is != want {
		t.Errorf("Path(%s) = %v", short(path), is)
	}
}

func wantPut(t *testing.T, d *Disk, path, body string, time int, want api.Errno) {
	t.Helper()
	if err := d.Put(path, body, time); err != want {
		t.Errorf("Put(%s, %s, %d) = %d, not %d", short(path), short(body), time, int(err), int(want))
	}
}

func wantRemove(t *testing.T, d *Disk, path string, want bool) {
	t.Helper()
	if is := d.Remove(path); is != want {
		t.Errorf("Remove(%s) = %v", short(path), is)
	}
}

func wantSeq(t *testing.T, d *Disk, want int) {
	t.Helper()
	if seq := d.Seq(); seq != want {
		t.Errorf("Seq = %d, not %d", seq, want)
	}
	if s := d.Snap(); s.Seq() != want {
		t.Errorf("the snapshot's Seq = %d, not %d", s.Seq(), want)
	}
}

func wantGet(t *testing.T, s *Snap, path, body string, time, seq int) {
	t.Helper()
	want := api.File{Body: body, Time: time, Seq: seq}
	if file, is := s.Get(path); !is || file != want {
		t.Errorf("Get(%s) = %s %d %d %v", short(path), short(file.Body), file.Time, file.Seq, is)
	}
}

func wantNoFile(t *testing.T, s *Snap, path string) {
	t.Helper()
	if file, is := s.Get(path); is || file != (api.File{}) {
		t.Errorf("Get(%s) = %s %d %d %v, though there is none", short(path), short(file.Body), file.Time, file.Seq, is)
	}
}

func wantList(t *testing.T, s *Snap, prefix string, want ...api.Entry) {
	t.Helper()
	if list := s.List(prefix); !slices.Equal(list, want) {
		t.Errorf("List(%s) = %v, not %v", short(prefix), pathsOf(list), pathsOf(want))
	}
}

// wantPaths holds a list's paths alone.
func wantPaths(t *testing.T, s *Snap, prefix string, want ...string) {
	t.Helper()
	if paths := pathsOf(s.List(prefix)); !slices.Equal(paths, want) {
		t.Errorf("List(%s) = %q, not %q", short(prefix), paths, want)
	}
}

func pathsOf(list []api.Entry) []string {
	var paths []string
	for _, entry := range list {
		paths = append(paths, entry.Path)
	}
	return paths
}

func entry(path, body string, time, seq int) api.Entry {
	return api.Entry{Path: path, File: api.File{Body: body, Time: time, Seq: seq}}
}

// diskOf is a disk with an empty file of each of these paths.
func diskOf(t *testing.T, paths ...string) *Disk {
	t.Helper()
	d := New()
	for _, path := range paths {
		wantPut(t, d, path, "", 0, api.OK)
	}
	return d
}

// numbered is the path of a file that has a number.
func numbered(i int) string { return "/f/" + strconv.Itoa(i) }

// fullDisk is one with as many files as may be.
func fullDisk(t *testing.T) *Disk {
	t.Helper()
	d := New()
	for i := range greatestCount {
		wantPut(t, d, numbered(i), strconv.Itoa(i), i, api.OK)
	}
	return d
}

// The chapter's examples.

func TestExamplesOfPath(t *testing.T) {
	for _, path := range []string{"/a", "/a/b.c", "/a b"} {
		wantPath(t, path, true)
	}
	for _, path := range []string{"", "/", "a", "/a/", "//a", "/./a", "/a/.."} {
		wantPath(t, path, false)
	}
}

func TestExamples(t *testing.T) {
	d := New()
	wantPut(t, d, "/b", "x", 7, api.OK)
	wantPut(t, d, "/a", "yy", 0, api.OK)
	s := d.Snap()
	wantPut(t, d, "/b", "z", 9, api.OK)
	wantRemove(t, d, "/a", true)
	wantRemove(t, d, "/a", false)
	wantSeq(t, d, 4)
	wantGet(t, s, "/b", "x", 7, 1)
	wantList(t, s, "/", entry("/a", "yy", 0, 2), entry("/b", "x", 7, 1))
	if s.Seq() != 2 {
		t.Error(s.Seq())
	}
	wantGet(t, d.Snap(), "/b", "z", 9, 3)
	wantList(t, d.Snap(), "/a")
}

// P13.1

func TestBytesOfAPath(t *testing.T) {
	for b := range 256 {
		may := 0x20 <= b && b <= 0x7E
		letter := string([]byte{byte(b)})
		wantPath(t, "/x"+letter+"y", may)
		wantPath(t, "/x/"+letter+"y", may && b != '/')
		wantPath(t, "/x"+letter, may && b != '/')
		wantPath(t, "/x/"+letter, may && b != '/' && b != '.')
		wantPath(t, letter+"x", b == '/')
		wantPath(t, letter, false)
	}
}

func TestBytesAreNoRunes(t *testing.T) {
	for _, path := range []string{"/é", "/a/\u00a0", "/\u212a", "/\U0001f600", "/a\xc0\xaf", "/\xe2\x82", "/\xff\xfe", "/\ufffd"} {
		wantPath(t, path, false)
	}
}

func TestPartsOfAPath(t *testing.T) {
	for _, path := range []string{"/...", "/....", "/.a", "/a.", "/..a", "/a..", "/.. ", "/ .", "/. /a", "/ ", "/ / ", "/a/.b/..c", "/a/b/c/d/e", "/~", "/%2e%2e", "/\\", "/a?b#c", "/A/a/A"} {
		wantPath(t, path, true)
	}
	for _, path := range []string{"/.", "/..", "/a/.", "/a/..", "/./a", "/../a", "/a/./b", "/a/../b", "/a//b", "//", "///", "//a", "/a//", "/a/b/", "/./", "/../", ".", "..", "./a", "../a", "a/b", " /a", "\\a", "a/"} {
		wantPath(t, path, false)
	}
}

func TestLengthOfAPath(t *testing.T) {
	for n := range 300 {
		wantPath(t, "/"+strings.Repeat("x", n), 1 <= n && n < longestPath)
		wantPath(t, strings.Repeat("/x", n), 1 <= n && 2*n <= longestPath)
		wantPath(t, strings.Repeat("/x", n)+"y", 1 <= n && 2*n+1 <= longestPath)
		wantPath(t, strings.Repeat("x", n), false)
	}
	wantPath(t, "/"+strings.Repeat("x", 1<<20), false)
}

// mayBe is the promise, word by word.
func mayBe(path string) bool {
	if len(path) > longestPath || path == "" || path[0] != '/' {
		return false
	}
	part := ""
	for _, b := range []byte(path[1:] + "/") {
		if b != '/' {
			if b < ' ' || b > '~' {
				return false
			}
			part += string(rune(b))
			continue
		}
		if len(part) == 0 || part == "." || part == ".." {
			return false
		}
		part = ""
	}
	return true
}

func TestAllShortPaths(t *testing.T) {
	const most = 6
	letters := "/.a \x1f"
	texts := []string{""}
	for range most {
		var longer []string
		for _, text := range texts {
			wantPath(t, text, mayBe(text))
			for i := range len(letters) {
				longer = append(longer, text+letters[i:i+1])
			}
		}
		texts = longer
	}
	for _, text := range texts {
		wantPath(t, text, mayBe(text))
	}
}

func TestScatteredPaths(t *testing.T) {
	scattered := numbers(13)
	for range 20000 {
		path := "/"
		for range scattered(9) {
			path += []string{"a", "b.c", ".", "..", "/", "/", "/", " ", "~", "\x7f", "\x1f", "\x80", strings.Repeat("x", 100)}[scattered(13)]
		}
		wantPath(t, path, mayBe(path))
	}
}

// P13.2

func TestPutOfAPathThatMayNotBe(t *testing.T) {
	d := diskOf(t, "/a")
	for _, path := range []string{"", "/", "a", "/a/", "//a", "/./a", "/a/..", "/a\x1f", "/a\x7f", "/é", "/" + strings.Repeat("x", longestPath)} {
		wantPut(t, d, path, "x", 1, api.ErrPath)
		wantNoFile(t, d.Snap(), path)
	}
	wantSeq(t, d, 1)
	wantPaths(t, d.Snap(), "", "/a")
}

func TestPutOfALongPath(t *testing.T) {
	d := New()
	path := "/" + strings.Repeat("x", longestPath-1)
	wantPut(t, d, path, "x", 1, api.OK)
	wantGet(t, d.Snap(), path, "x", 1, 1)
	wantNoFile(t, d.Snap(), path+"x")
	wantNoFile(t, d.Snap(), path[:longestPath-1])
}

func TestLengthOfABody(t *testing.T) {
	d := New()
	for seq, n := range []int{0, 1, longestBody - 1, longestBody} {
		body := strings.Repeat("b", n)
		wantPut(t, d, "/a", body, 1, api.OK)
		wantGet(t, d.Snap(), "/a", body, 1, seq+1)
	}
	for _, n := range []int{longestBody + 1, longestBody + 2, 2 * longestBody, 1 << 20} {
		wantPut(t, d, "/a", strings.Repeat("c", n), 1, api.ErrLong)
		wantPut(t, d, "/b", strings.Repeat("c", n), 1, api.ErrLong)
	}
	wantSeq(t, d, 4)
	wantList(t, d.Snap(), "", entry("/a", strings.Repeat("b", longestBody), 1, 4))
}

func TestAllBytesMayBeInABody(t *testing.T) {
	var all []byte
	for b := range 256 {
		all = append(all, byte(b))
	}
	d := New()
	wantPut(t, d, "/a", string(all), 1, api.OK)
	wantGet(t, d.Snap(), "/a", string(all), 1, 1)
}

func TestTimes(t *testing.T) {
	d := New()
	for seq, time := range []int{0, 1, 784111777, math.MaxInt32, math.MaxUint32, lastSecond - 1, lastSecond} {
		wantPut(t, d, "/a", "x", time, api.OK)
		wantGet(t, d.Snap(), "/a", "x", time, seq+1)
	}
	for _, time := range []int{-1, -2, -lastSecond, math.MinInt, lastSecond + 1, lastSecond + 2, math.MaxInt - 1, math.MaxInt} {
		wantPut(t, d, "/a", "y", time, api.ErrRange)
		wantPut(t, d, "/b", "y", time, api.ErrRange)
	}
	wantSeq(t, d, 7)
	wantList(t, d.Snap(), "", entry("/a", "x", lastSecond, 7))
}

func TestAsManyFilesAsMayBe(t *testing.T) {
	d := fullDisk(t)
	wantSeq(t, d, greatestCount)
	before := d.Snap().List("")
	if len(before) != greatestCount {
		t.Fatal(len(before))
	}
	for _, path := range []string{"/g", "/f", numbered(greatestCount), "/f/0/0", "/F/0"} {
		wantPut(t, d, path, "x", 1, api.ErrMany)
		wantNoFile(t, d.Snap(), path)
	}
	wantSeq(t, d, greatestCount)
	wantList(t, d.Snap(), "", before...)
	// One of a path that there is has its place.
	for i := range greatestCount {
		wantPut(t, d, numbered(i), "y", 2, api.OK)
		wantGet(t, d.Snap(), numbered(i), "y", 2, greatestCount+i+1)
	}
	wantPut(t, d, "/g", "x", 1, api.ErrMany)
}

func TestARemovedFileMakesRoom(t *testing.T) {
	d := fullDisk(t)
	wantRemove(t, d, "/g", false)
	wantPut(t, d, "/g", "x", 1, api.ErrMany)
	wantRemove(t, d, numbered(5), true)
	wantPut(t, d, "/g", "x", 1, api.OK)
	wantGet(t, d.Snap(), "/g", "x", 1, greatestCount+2)
	wantPut(t, d, numbered(5), "x", 1, api.ErrMany)
	wantPut(t, d, "/h", "x", 1, api.ErrMany)
	wantSeq(t, d, greatestCount+2)
}

func TestFilesThatComeAndGo(t *testing.T) {
	d := New()
	for i := range 3 * greatestCount {
		wantPut(t, d, numbered(i), "x", i, api.OK)
		if i >= 10 {
			wantRemove(t, d, numbered(i-10), true)
		}
	}
	wantSeq(t, d, 6*greatestCount-10)
	if list := d.Snap().List("/"); len(list) != 10 {
		t.Error(len(list))
	}
}

func TestWhichErrorIsFirst(t *testing.T) {
	long := strings.Repeat("x", longestBody+1)
	full := fullDisk(t)
	var none *Disk
	for _, time := range []int{-1, 0, lastSecond, lastSecond + 1} {
		for _, body := range []string{"", long} {
			for _, path := range []string{"", "/g", "/f/0", "/g/"} {
				wantPut(t, none, path, body, time, api.ErrNil)
			}
			wantPut(t, full, "/g/", body, time, api.ErrPath)
		}
		wantPut(t, full, "/g", long, time, api.ErrLong)
		wantPut(t, full, "/f/0", long, time, api.ErrLong)
	}
	wantPut(t, full, "/g", "", -1, api.ErrRange)
	wantPut(t, full, "/g", "", lastSecond+1, api.ErrRange)
	wantPut(t, full, "/f/0", "", -1, api.ErrRange)
	wantPut(t, full, "/g", "", 0, api.ErrMany)
	wantSeq(t, full, greatestCount)
	wantGet(t, full.Snap(), "/f/0", "0", 0, 1)
}

func TestPutInPlaceOfAnother(t *testing.T) {
	d := diskOf(t, "/a", "/b")
	wantPut(t, d, "/a", "x", 5, api.OK)
	wantList(t, d.Snap(), "", entry("/a", "x", 5, 3), entry("/b", "", 0, 2))
	// The same again is a change too.
	wantPut(t, d, "/a", "x", 5, api.OK)
	wantSeq(t, d, 4)
	wantList(t, d.Snap(), "", entry("/a", "x", 5, 4), entry("/b", "", 0, 2))
}

func TestPathsAreHeldByteByByte(t *testing.T) {
	paths := []string{"/A", "/a", "/a ", "/a.", "/a/a", "/a/b", "/aa"}
	d := diskOf(t, paths...)
	wantSeq(t, d, len(paths))
	// A file may stand where others stand below it.
	wantPaths(t, d.Snap(), "", paths...)
}

// P13.3

func TestRemove(t *testing.T) {
	d := diskOf(t, "/a", "/a/b", "/b")
	wantRemove(t, d, "/a", true)
	wantSeq(t, d, 4)
	wantNoFile(t, d.Snap(), "/a")
	wantList(t, d.Snap(), "", entry("/a/b", "", 0, 2), entry("/b", "", 0, 3))
	wantRemove(t, d, "/a", false)
	wantSeq(t, d, 4)
	wantPut(t, d, "/a", "y", 1, api.OK)
	wantGet(t, d.Snap(), "/a", "y", 1, 5)
	for _, path := range []string{"/b", "/a/b", "/a"} {
		wantRemove(t, d, path, true)
	}
	wantSeq(t, d, 8)
	wantList(t, d.Snap(), "")
}

func TestRemoveOfAFileThatThereIsNot(t *testing.T) {
	d := diskOf(t, "/a/b", "/c")
	for _, path := range []string{"", "/", "a", "/a", "/a/", "/a/b/", "/a/bb", "/A/b", "/a//b", "/a/./b", "c", "/c\x00", "/é", strings.Repeat("/c", 1000)} {
		wantRemove(t, d, path, false)
	}
	wantSeq(t, d, 2)
	wantPaths(t, d.Snap(), "", "/a/b", "/c")
	wantRemove(t, New(), "/a", false)
}

// P13.4

func TestANewDisk(t *testing.T) {
	d := New()
	if d == nil {
		t.Fatal("none")
	}
	wantSeq(t, d, 0)
	s := d.Snap()
	if s == nil {
		t.Fatal("no snapshot")
	}
	for _, path := range []string{"", "/", "/a"} {
		wantNoFile(t, s, path)
		wantList(t, s, path)
	}
}

func TestSeqCountsChangesAlone(t *testing.T) {
	d := New()
	for i := range 100 {
		wantSeq(t, d, 3*i)
		wantPut(t, d, "/a", "x", i, api.OK)
		wantSeq(t, d, 3*i+1)
		wantPut(t, d, "/b", "x", i, api.OK)
		wantSeq(t, d, 3*i+2)
		wantRemove(t, d, "/a", true)
		wantSeq(t, d, 3*i+3)
		wantRemove(t, d, "/a", false)
		wantPut(t, d, "a", "x", i, api.ErrPath)
		wantPut(t, d, "/a", "x", -1, api.ErrRange)
		d.Snap().List("")
	}
}

func TestASnapshotStays(t *testing.T) {
	d := New()
	wantPut(t, d, "/a", "1", 1, api.OK)
	wantPut(t, d, "/b", "2", 2, api.OK)
	wantPut(t, d, "/c", "3", 3, api.OK)
	s := d.Snap()
	wantPut(t, d, "/a", "other", 9, api.OK)
	wantRemove(t, d, "/b", true)
	wantPut(t, d, "/d", "new", 9, api.OK)
	wantGet(t, s, "/a", "1", 1, 1)
	wantGet(t, s, "/b", "2", 2, 2)
	wantGet(t, s, "/c", "3", 3, 3)
	wantNoFile(t, s, "/d")
	wantList(t, s, "", entry("/a", "1", 1, 1), entry("/b", "2", 2, 2), entry("/c", "3", 3, 3))
	if s.Seq() != 3 {
		t.Error(s.Seq())
	}
	wantList(t, d.Snap(), "", entry("/a", "other", 9, 4), entry("/c", "3", 3, 3), entry("/d", "new", 9, 6))
}

func TestASnapshotOfAnEmptyDiskStays(t *testing.T) {
	d := New()
	s := d.Snap()
	wantPut(t, d, "/a", "1", 1, api.OK)
	wantNoFile(t, s, "/a")
	wantList(t, s, "")
	if s.Seq() != 0 {
		t.Error(s.Seq())
	}
}

// P13.5

func TestGet(t *testing.T) {
	s := diskOf(t, "/a", "/a/b", "/c d").Snap()
	wantGet(t, s, "/a", "", 0, 1)
	wantGet(t, s, "/a/b", "", 0, 2)
	wantGet(t, s, "/c d", "", 0, 3)
	for _, path := range []string{"", "/", "a", "/A", "/a/", "//a", "/./a", "/a/b/", "/a/B", "/c", "/c d ", "/c%20d", "/a\x00", "/é", strings.Repeat("/a", 1000)} {
		wantNoFile(t, s, path)
	}
}

func TestListOfAPrefix(t *testing.T) {
	s := diskOf(t, "/b/c", "/a/b", "/a", "/ab", "/a/b/c", "/a.b", "/B", "/a/a").Snap()
	for _, c := range []struct {
		prefix string
		want   []string
	}{
		{"", []string{"/B", "/a", "/a.b", "/a/a", "/a/b", "/a/b/c", "/ab", "/b/c"}},
		{"/", []string{"/B", "/a", "/a.b", "/a/a", "/a/b", "/a/b/c", "/ab", "/b/c"}},
		{"/a", []string{"/a", "/a.b", "/a/a", "/a/b", "/a/b/c", "/ab"}},
		{"/a/", []string{"/a/a", "/a/b", "/a/b/c"}},
		{"/a/b", []string{"/a/b", "/a/b/c"}},
		{"/a/b/", []string{"/a/b/c"}},
		{"/a/b/c", []string{"/a/b/c"}},
		{"/a/b/c/", nil},
		{"/a/b/cd", nil},
		{"/ab", []string{"/ab"}},
		{"/a.", []string{"/a.b"}},
		{"/b", []string{"/b/c"}},
		{"/B", []string{"/B"}},
		{"/c", nil},
		{"a", nil},
		{"//", nil},
		{"/A", nil},
		{" ", nil},
		{"\x00", nil},
		{"/\xff", nil},
		{strings.Repeat("/a", 1000), nil},
	} {
		wantPaths(t, s, c.prefix, c.want...)
	}
}

func TestListIsRisingByteByByte(t *testing.T) {
	// One path of each byte that may stand in one, as the last one, and ahead of others.
	var paths []string
	for b := 0x20; b <= 0x7E; b++ {
		if b == '/' || b == '.' {
			continue
		}
		letter := string(rune(b))
		paths = append(paths, "/x/"+letter, "/x/"+letter+"0", "/x/"+letter+"~", "/x/"+letter+" ")
	}
	scattered := numbers(4)
	for range 20 {
		for i := range paths {
			j := i + scattered(len(paths)-i)
			paths[i], paths[j] = paths[j], paths[i]
		}
		list := pathsOf(diskOf(t, paths...).Snap().List("/x"))
		if !sort.StringsAreSorted(list) || len(list) != len(paths) {
			t.Error(list)
		}
	}
}

func TestListOfAsManyAsMayBe(t *testing.T) {
	list := fullDisk(t).Snap().List("/f/")
	var want []string
	for i := range greatestCount {
		want = append(want, numbered(i))
	}
	slices.Sort(want)
	if !slices.Equal(pathsOf(list), want) {
		t.Error(len(list))
	}
	for _, e := range list {
		i, _ := strconv.Atoi(strings.TrimPrefix(e.Path, "/f/"))
		if e.File != (api.File{Body: strconv.Itoa(i), Time: i, Seq: i + 1}) {
			t.Error(e)
		}
	}
}

func TestGetAndListSayTheSame(t *testing.T) {
	s := fullDisk(t).Snap()
	for _, e := range s.List("") {
		wantGet(t, s, e.Path, e.File.Body, e.File.Time, e.File.Seq)
	}
}

// P13.6

func TestASnapshotAlwaysAnswersTheSame(t *testing.T) {
	d := fullDisk(t)
	s := d.Snap()
	first := s.List("/f/1")
	for i := range 50 {
		wantPut(t, d, numbered(i), "other", 0, api.OK)
		wantRemove(t, d, numbered(100+i), true)
		wantList(t, s, "/f/1", first...)
		wantGet(t, s, "/f/7", "7", 7, 8)
		if s.Seq() != greatestCount {
			t.Error(s.Seq())
		}
	}
}

func TestTwoSnapshotsWithNothingBetween(t *testing.T) {
	d := fullDisk(t)
	a := d.Snap()
	d.Seq()
	wantRemove(t, d, "/g", false)
	wantPut(t, d, "/g", "", 0, api.ErrMany)
	b := d.Snap()
	for _, prefix := range []string{"", "/", "/f/1", "/g"} {
		wantList(t, b, prefix, a.List(prefix)...)
	}
	if a.Seq() != b.Seq() {
		t.Error(a.Seq(), b.Seq())
	}
	// And what the disk does behind them makes them no different.
	wantRemove(t, d, "/f/1", true)
	wantList(t, b, "", a.List("")...)
}

// wantSeqs holds what follows for the Seqs of a snapshot's files.
func wantSeqs(t *testing.T, s *Snap) {
	t.Helper()
	seen := map[int]string{}
	for _, e := range s.List("") {
		if e.File.Seq < 1 || e.File.Seq > s.Seq() {
			t.Errorf("%s has the Seq %d, and the snapshot %d", e.Path, e.File.Seq, s.Seq())
		}
		if other, is := seen[e.File.Seq]; is {
			t.Errorf("%s and %s have the Seq %d", other, e.Path, e.File.Seq)
		}
		seen[e.File.Seq] = e.Path
	}
}

// All of it together.

// paper is a disk as the chapter words it: all that was done to it, told again for each question.
type paper []change

type change struct {
	path string
	file api.File
	gone bool
}

// get is the file of a path, as the last change of it says.
func (p paper) get(path string) (api.File, bool) {
	for _, c := range slices.Backward(p) {
		if c.path == path {
			return c.file, !c.gone
		}
	}
	return api.File{}, false
}

// list is all files whose paths begin so.
func (p paper) list(prefix string) []api.Entry {
	var paths []string
	for _, c := range p {
		if len(c.path) >= len(prefix) && c.path[:len(prefix)] == prefix && !slices.Contains(paths, c.path) {
			paths = append(paths, c.path)
		}
	}
	sort.Strings(paths)
	var list []api.Entry
	for _, path := range paths {
		if file, is := p.get(path); is {
			list = append(list, api.Entry{Path: path, File: file})
		}
	}
	return list
}

// wantPaper holds a snapshot against what had been done ahead of it.
func wantPaper(t *testing.T, s *Snap, p paper, paths []string) {
	t.Helper()
	if s.Seq() != len(p) {
		t.Errorf("Seq = %d, not %d", s.Seq(), len(p))
	}
	for _, path := range paths {
		wantList(t, s, path, p.list(path)...)
		if file, is := p.get(path); is {
			wantGet(t, s, path, file.Body, file.Time, file.Seq)
		} else {
			wantNoFile(t, s, path)
		}
	}
	wantSeqs(t, s)
}

// do does one change to a disk and to its paper: a file is put, or removed.
func do(t *testing.T, d *Disk, p paper, path string, put bool, time int) paper {
	t.Helper()
	body := strconv.Itoa(time)
	_, is := p.get(path)
	switch {
	case put && !mayBe(path):
		wantPut(t, d, path, body, time, api.ErrPath)
	case put:
		wantPut(t, d, path, body, time, api.OK)
		return append(p, change{path: path, file: api.File{Body: body, Time: time, Seq: len(p) + 1}})
	default:
		wantRemove(t, d, path, is)
		if is {
			return append(p, change{path: path, gone: true})
		}
	}
	return p
}

func TestAllShortRowsOfChanges(t *testing.T) {
	const most = 4
	paths := []string{"/a", "/a/b", "/b", "/"}
	rows := 1
	for range most {
		rows *= 2 * len(paths)
	}
	for row := range rows {
		d, p := New(), paper(nil)
		snaps := []*Snap{d.Snap()}
		papers := []paper{nil}
		for rest, i := row, 0; i < most; i++ {
			p = do(t, d, p, paths[rest/2%len(paths)], rest%2 == 0, i)
			snaps, papers = append(snaps, d.Snap()), append(papers, slices.Clone(p))
			rest /= 2 * len(paths)
		}
		// Each snapshot is asked when all is done.
		for i, s := range snaps {
			wantPaper(t, s, papers[i], paths)
		}
		if t.Failed() {
			t.Fatal("row", row)
		}
	}
}

func TestLongRowsOfChanges(t *testing.T) {
	paths := []string{"", "/", "/a", "/a/b", "/a/c", "/ab", "/b", "/b/", "/b/a/c", "/c d", "/~", "x"}
	for seed := range uint64(100) {
		scattered := numbers(seed)
		d, p := New(), paper(nil)
		var snaps []*Snap
		var papers []paper
		for i := range 200 {
			p = do(t, d, p, paths[scattered(len(paths))], scattered(3) > 0, scattered(1000))
			if i%20 == 0 {
				snaps, papers = append(snaps, d.Snap()), append(papers, slices.Clone(p))
			}
		}
		wantPaper(t, d.Snap(), p, paths)
		for i, s := range snaps {
			wantPaper(t, s, papers[i], paths)
		}
		if t.Failed() {
			t.Fatal("seed", seed)
		}
	}
}

// R1, R2

func TestNilDisk(t *testing.T) {
	var d *Disk
	for _, path := range []string{"", "/", "/a"} {
		wantPut(t, d, path, "x", 1, api.ErrNil)
		wantRemove(t, d, path, false)
	}
	if s := d.Snap(); s != nil || d.Seq() != 0 {
		t.Error(s, d.Seq())
	}
}

func TestNilSnap(t *testing.T) {
	var s *Snap
	for _, path := range []string{"", "/", "/a"} {
		wantNoFile(t, s, path)
		wantList(t, s, path)
	}
	if s.Seq() != 0 {
		t.Error(s.Seq())
	}
}

func TestOnesThatNoCallMade(t *testing.T) {
	d := &Disk{}
	wantSeq(t, d, 0)
	wantRemove(t, d, "/a", false)
	wantList(t, d.Snap(), "")
	wantNoFile(t, d.Snap(), "/a")
	wantPut(t, d, "/a", "x", 1, api.OK)
	wantGet(t, d.Snap(), "/a", "x", 1, 1)
	s := &Snap{}
	wantNoFile(t, s, "/a")
	wantList(t, s, "")
}

func TestListIsNewMemory(t *testing.T) {
	d := diskOf(t, "/a", "/b", "/c")
	s := d.Snap()
	first, second := s.List("/"), s.List("/")
	first[0], first[2] = entry("/x", "x", 9, 9), entry("/y", "y", 9, 9)
	_ = append(first, entry("/z", "z", 9, 9), entry("/z", "z", 9, 9))
	want := []api.Entry{entry("/a", "", 0, 1), entry("/b", "", 0, 2), entry("/c", "", 0, 3)}
	if !slices.Equal(second, want) {
		t.Error(second)
	}
	wantList(t, s, "/", want...)
	wantList(t, d.Snap(), "/", want...)
}

func TestDisksKnowNothingOfEachOther(t *testing.T) {
	a, b := diskOf(t, "/a"), diskOf(t, "/b", "/c")
	wantPut(t, a, "/c", "x", 1, api.OK)
	wantRemove(t, b, "/b", true)
	wantList(t, a.Snap(), "", entry("/a", "", 0, 1), entry("/c", "x", 1, 2))
	wantList(t, b.Snap(), "", entry("/c", "", 0, 2))
	full, other := fullDisk(t), New()
	wantPut(t, full, "/g", "", 0, api.ErrMany)
	wantPut(t, other, "/g", "", 0, api.OK)
}

func TestSameChangesSameAnswers(t *testing.T) {
	a, b := fullDisk(t), fullDisk(t)
	for range 20 {
		wantList(t, b.Snap(), "", a.Snap().List("")...)
	}
}
