package date

import (
	"math"
	"strings"
	"testing"
	"time"

	"ostler/api"
)

// layout is a date as package time, whose calendar is another one than this package's, writes it.
const layout = "Mon, 02 Jan 2006 15:04:05 GMT"

const lastDay = 2932896

// written is the date of a second, by package time.
func written(second int) string { return time.Unix(int64(second), 0).UTC().Format(layout) }

// read is the second of a date, by package time.
func read(s string) (int, api.Errno) {
	when, err := time.Parse(layout, s)
	second := int(when.Unix())
	if err != nil || when.Format(layout) != s || second < 0 || second > 253402300799 {
		return 0, api.ErrDate
	}
	return second, api.OK
}

// refused fails, unless Parse refuses a text.
func refused(t *testing.T, s string) {
	t.Helper()
	if second, err := Parse(s); second != 0 || err != api.ErrDate {
		t.Errorf("Parse(%q) = %d, %v", s, second, err)
	}
}

// P2.1, P2.2: the seconds that the chapter names, and those at the ends of months and years.
func TestExamples(t *testing.T) {
	for _, x := range []struct {
		second int
		date   string
	}{
		{0, "Thu, 01 Jan 1970 00:00:00 GMT"},
		{1, "Thu, 01 Jan 1970 00:00:01 GMT"},
		{59, "Thu, 01 Jan 1970 00:00:59 GMT"},
		{60, "Thu, 01 Jan 1970 00:01:00 GMT"},
		{3599, "Thu, 01 Jan 1970 00:59:59 GMT"},
		{3600, "Thu, 01 Jan 1970 01:00:00 GMT"},
		{86399, "Thu, 01 Jan 1970 23:59:59 GMT"},
		{86400, "Fri, 02 Jan 1970 00:00:00 GMT"},
		{31535999, "Thu, 31 Dec 1970 23:59:59 GMT"},
		{31536000, "Fri, 01 Jan 1971 00:00:00 GMT"},
		{68169599, "Mon, 28 Feb 1972 23:59:59 GMT"},
		{68169600, "Tue, 29 Feb 1972 00:00:00 GMT"},
		{68256000, "Wed, 01 Mar 1972 00:00:00 GMT"},
		{784111777, "Sun, 06 Nov 1994 08:49:37 GMT"},
		{946684799, "Fri, 31 Dec 1999 23:59:59 GMT"},
		{946684800, "Sat, 01 Jan 2000 00:00:00 GMT"},
		{951782400, "Tue, 29 Feb 2000 00:00:00 GMT"},
		{951868800, "Wed, 01 Mar 2000 00:00:00 GMT"},
		{978220800, "Sun, 31 Dec 2000 00:00:00 GMT"},
		{4107542399, "Sun, 28 Feb 2100 23:59:59 GMT"},
		{4107542400, "Mon, 01 Mar 2100 00:00:00 GMT"},
		{253402300799, "Fri, 31 Dec 9999 23:59:59 GMT"},
	} {
		if date, err := Format(x.second); date != x.date || err != api.OK {
			t.Errorf("Format(%d) = %q, %v", x.second, date, err)
		}
		if second, err := Parse(x.date); second != x.second || err != api.OK {
			t.Errorf("Parse(%q) = %d, %v", x.date, second, err)
		}
	}
}

// P2.1
func TestFormatRefuses(t *testing.T) {
	for _, second := range []int{
		-1, -86400, -86401, -62135596800, math.MinInt64,
		253402300800, 253402387200, 1 << 53, math.MaxInt64,
	} {
		if date, err := Format(second); date != "" || err != api.ErrRange {
			t.Errorf("Format(%d) = %q, %v", second, date, err)
		}
	}
}

// P2.1, P2.2, P2.3: each day that there is, at another second of the day each.
func TestEachDay(t *testing.T) {
	for day := 0; day <= lastDay; day++ {
		second := day*86400 + day*7919%86400
		date, err := Format(second)
		if date != written(second) || err != api.OK {
			t.Fatalf("Format(%d) = %q, %v", second, date, err)
		}
		if back, err := Parse(date); back != second || err != api.OK {
			t.Fatalf("Parse(%q) = %d, %v", date, back, err)
		}
	}
}

// P2.1, P2.2, P2.3: each second of some days.
func TestEachSecondOfADay(t *testing.T) {
	for _, day := range []int{0, 9075, 11016, lastDay} {
		for second := day * 86400; second < (day+1)*86400; second++ {
			date, err := Format(second)
			if date != written(second) || err != api.OK {
				t.Fatalf("Format(%d) = %q, %v", second, date, err)
			}
			if back, err := Parse(date); back != second || err != api.OK {
				t.Fatalf("Parse(%q) = %d, %v", date, back, err)
			}
		}
	}
}

// P2.3: a day later the clock is the same, and the day of the week is the next one.
func TestADayLater(t *testing.T) {
	next := map[string]string{"Mon": "Tue", "Tue": "Wed", "Wed": "Thu", "Thu": "Fri", "Fri": "Sat", "Sat": "Sun", "Sun": "Mon"}
	for day := 0; day < lastDay; day++ {
		second := day*86400 + day*104729%86400
		date, _ := Format(second)
		later, err := Format(second + 86400)
		if err != api.OK || later[:3] != next[date[:3]] || later[16:] != date[16:] || later[5:16] == date[5:16] {
			t.Fatalf("%q is followed by %q, %v", date, later, err)
		}
	}
}

// P2.2
func TestParseRefuses(t *testing.T) {
	for _, s := range []string{
		"",
		" ",
		"Sun",
		// Another day of the week.
		"Mon, 06 Nov 1994 08:49:37 GMT",
		"Sat, 06 Nov 1994 08:49:37 GMT",
		"Wed, 01 Jan 1970 00:00:00 GMT",
		// Days that the month does not have; the day of the week is that of the day that follows, or of the one ahead.
		"Fri, 29 Feb 1900 00:00:00 GMT",
		"Thu, 29 Feb 1973 00:00:00 GMT",
		"Mon, 29 Feb 2100 00:00:00 GMT",
		"Wed, 30 Feb 2000 00:00:00 GMT",
		"Fri, 31 Apr 1970 00:00:00 GMT",
		"Wed, 31 Jun 1970 00:00:00 GMT",
		"Thu, 31 Sep 1970 00:00:00 GMT",
		"Tue, 31 Nov 1970 00:00:00 GMT",
		"Sun, 32 Jan 1970 00:00:00 GMT",
		"Fri, 32 Dec 1970 00:00:00 GMT",
		"Thu, 00 Jan 1970 00:00:00 GMT",
		"Wed, 00 Jan 1970 00:00:00 GMT",
		"Sat, 00 Feb 1970 00:00:00 GMT",
		"Fri, 99 Jan 1970 00:00:00 GMT",
		// Clocks that go on.
		"Thu, 01 Jan 1970 24:00:00 GMT",
		"Fri, 02 Jan 1970 24:00:00 GMT",
		"Sun, 06 Nov 1994 08:60:37 GMT",
		"Sun, 06 Nov 1994 08:49:60 GMT",
		"Sun, 06 Nov 1994 99:99:99 GMT",
		"Fri, 31 Dec 9999 23:59:60 GMT",
		"Fri, 31 Dec 9999 24:00:00 GMT",
		// Ahead of the first second.
		"Wed, 31 Dec 1969 23:59:59 GMT",
		"Wed, 31 Dec 1969 00:00:00 GMT",
		"Sat, 01 Jan 0000 00:00:00 GMT",
		"Sun, 31 Dec 0000 00:00:00 GMT",
		"Mon, 01 Jan 0001 00:00:00 GMT",
		// Letters in the wrong case.
		"sun, 06 Nov 1994 08:49:37 GMT",
		"SUN, 06 Nov 1994 08:49:37 GMT",
		"Sun, 06 nov 1994 08:49:37 GMT",
		"Sun, 06 NOV 1994 08:49:37 GMT",
		"Sun, 06 Nov 1994 08:49:37 gmt",
		// Too few or too many bytes.
		"Sun, 6 Nov 1994 08:49:37 GMT",
		"Sun, 06 Nov 94 08:49:37 GMT",
		"Sun, 06 Nov 1994 8:49:37 GMT",
		"Sun, 06 Nov 1994 08:49:37",
		"Sun, 06 Nov 1994 08:49:37 ",
		"Sun, 06 Nov 1994 08:49:37 GM",
		"un, 06 Nov 1994 08:49:37 GMT",
		"Sun, 06 Nov 1994 08:49:37 GMT ",
		" Sun, 06 Nov 1994 08:49:37 GMT",
		"Sun, 06 Nov 1994 08:49:37 GMT\x00",
		"Sun, 006 Nov 1994 08:49:37 GMT",
		"Sat, 01 Jan 10000 00:00:00 GMT",
		"Sunday, 06 Nov 1994 08:49:37 GMT",
		// As many bytes, but others.
		"Sun,  6 Nov 1994 08:49:37 GMT",
		"Sun, +6 Nov 1994 08:49:37 GMT",
		"Sun, -6 Nov 1994 08:49:37 GMT",
		"Thu, -1 Jan 1970 00:00:00 GMT",
		"Sun, 06 Nov 1994 0x:49:37 GMT",
		"Sun, 06-Nov-1994 08:49:37 GMT",
		"Sun; 06 Nov 1994 08:49:37 GMT",
		"Sun, 06 Nov 1994 08.49.37 GMT",
		"Sun, 06 Nov 1994 08:49:37 UTC",
		"Sun, 06 Nov 1994 08:49:37\tGMT",
		"Sun, 06 ovD 1994 08:49:37 GMT",
		"Thu, 01 anF 1970 00:00:00 GMT",
		"Thu, 01     1970 00:00:00 GMT",
		"hu,, 01 Jan 1970 00:00:00 GMT",
		"nTu, 01 Jan 1970 00:00:00 GMT",
		"Thu, 01 Jan 1970 00:00:00 GMt",
		"Thu, 01 Jan 197\x00 00:00:00 GMT",
		"Thu, 01 Jan 1970 00:00:00 \xff\xff\xff",
		// Other ways to write a date.
		"Sunday, 06-Nov-94 08:49:37 GMT",
		"Sun Nov  6 08:49:37 1994",
		"1994-11-06T08:49:37.000000000Z",
		strings.Repeat("0", 29),
		strings.Repeat(" ", 29),
		strings.Repeat("\x00", 29),
		strings.Repeat("\xff", 29),
		strings.Repeat("9", 1<<20),
		strings.Repeat("Sun, 06 Nov 1994 08:49:37 GMT", 2),
	} {
		refused(t, s)
	}
}

// P2.2: each beginning and each end of a date, and a date with a byte more at each place.
func TestParseRefusesOtherLengths(t *testing.T) {
	for _, second := range []int{0, 784111777, 253402300799} {
		date := written(second)
		for i := range len(date) + 1 {
			if i < len(date) {
				refused(t, date[:i])
				refused(t, date[:i]+date[i+1:])
			}
			if i > 0 {
				refused(t, date[i:])
			}
			for _, more := range []string{" ", "0", "\x00", "T"} {
				refused(t, date[:i]+more+date[i:])
			}
		}
	}
}

// P2.2: dates with each byte at each place.
func TestParseOfEachByte(t *testing.T) {
	for _, second := range []int{0, 951782400, 784111777, 4107542399, 253402300799} {
		date := written(second)
		for i := range len(date) {
			for c := range 256 {
				s := date[:i] + string([]byte{byte(c)}) + date[i+1:]
				want, wantErr := read(s)
				if got, err := Parse(s); got != want || err != wantErr {
					t.Errorf("Parse(%q) = %d, %v, not %d, %v", s, got, err, want, wantErr)
				}
			}
		}
	}
}

// P2.2: each day of the week, day of two digits and month, of years of every kind.
func TestParseOfEachDay(t *testing.T) {
	for _, year := range []string{"0000", "0004", "1600", "1900", "1968", "1969", "1970", "1971", "1972", "2000", "2100", "9996", "9999"} {
		for _, month := range []string{"Jan", "Feb", "Mar", "Apr", "May", "Jun", "Jul", "Aug", "Sep", "Oct", "Nov", "Dec", "jan", "Foo"} {
			for day := range 100 {
				for _, weekday := range []string{"Mon", "Tue", "Wed", "Thu", "Fri", "Sat", "Sun"} {
					s := weekday + ", " + string([]byte{byte('0' + day/10), byte('0' + day%10)}) + " " + month + " " + year + " 12:34:56 GMT"
					// Package time takes more than Format writes, such as months in small letters.
					want, wantErr := read(s)
					if got, err := Parse(s); got != want || err != wantErr {
						t.Fatalf("Parse(%q) = %d, %v, not %d, %v", s, got, err, want, wantErr)
					}
				}
			}
		}
	}
}

// P2.2: each hour, minute and second of two digits.
func TestParseOfEachClock(t *testing.T) {
	for clock := range 1000000 {
		b := []byte("Sun, 06 Nov 1994 00:00:00 GMT")
		hour, minute, second := clock/10000, clock/100%100, clock%100
		b[17], b[18] = byte('0'+hour/10), byte('0'+hour%10)
		b[20], b[21] = byte('0'+minute/10), byte('0'+minute%10)
		b[23], b[24] = byte('0'+second/10), byte('0'+second%10)
		want, wantErr := 784080000+hour*3600+minute*60+second, api.OK
		if hour > 23 || minute > 59 || second > 59 {
			want, wantErr = 0, api.ErrDate
		}
		if got, err := Parse(string(b)); got != want || err != wantErr {
			t.Fatalf("Parse(%q) = %d, %v", b, got, err)
		}
	}
}
