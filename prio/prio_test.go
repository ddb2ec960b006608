package prio

import (
	"math"
	"regexp"
	"strings"
	"testing"

	"ostler/api"
	"ostler/text"
)

func plain(urgency int) api.Priority { return api.Priority{Urgency: urgency} }

func parts(urgency int) api.Priority { return api.Priority{Urgency: urgency, Parts: true} }

func wantParse(t *testing.T, value string, want api.Priority) {
	t.Helper()
	if p := Parse(value); p != want {
		t.Errorf("Parse(%q) = %v, not %v", value, p, want)
	}
}

func wantFormat(t *testing.T, p api.Priority, want string) {
	t.Helper()
	if s := Format(p); s != want {
		t.Errorf("Format(%v) = %q, not %q", p, s, want)
	}
}

// The chapter's examples.

func TestExamples(t *testing.T) {
	wantParse(t, "", plain(3))
	wantParse(t, "u=5", plain(5))
	wantParse(t, "i", parts(3))
	wantParse(t, "u=1, i=?0", plain(1))
	wantParse(t, "u=9, i=1, x", plain(3))
	wantParse(t, "u=2;q=1 , u=4;i", plain(4))
	wantParse(t, "u=2,u=x", plain(2))
	wantParse(t, "U=1", plain(3))
	wantParse(t, "u= 1", plain(3))
	wantFormat(t, parts(0), "u=0, i")
	wantFormat(t, plain(9), "u=7")
}

// P10.1

func TestParseEachByteBehindTheSign(t *testing.T) {
	for c := range 256 {
		byUrgency, byParts := plain(3), plain(3)
		if c >= '0' && c <= '7' {
			byUrgency = plain(c - '0')
		}
		if c == '1' {
			byParts = parts(3)
		}
		if c == ',' || c == ';' || c == ' ' || c == '\t' {
			continue // these are of the list, and looked at below
		}
		wantParse(t, "u="+string([]byte{byte(c)}), byUrgency)
		wantParse(t, "i=?"+string([]byte{byte(c)}), byParts)
	}
}

func TestParseOfOneMember(t *testing.T) {
	for value, want := range map[string]api.Priority{
		"i=?1": parts(3),
		"i=?0": plain(3),
		"u=0":  plain(0),
		"u=7":  plain(7),
		// Any other member says nothing.
		"u":          plain(3),
		"u=":         plain(3),
		"u=8":        plain(3),
		"u=-1":       plain(3),
		"u=+1":       plain(3),
		"u=00":       plain(3),
		"u=01":       plain(3),
		"u=10":       plain(3),
		"u=1.0":      plain(3),
		"u=\"1\"":    plain(3),
		"u =1":       plain(3),
		"u1":         plain(3),
		"1":          plain(3),
		"xu=1":       plain(3),
		"u=1 i":      plain(3),
		"u=1\x00":    plain(3),
		"u=\xd9\xa1": plain(3), // a digit of another script
		"u=\xff":     plain(3),
		"I":          plain(3),
		"I=?1":       plain(3),
		"i=":         plain(3),
		"i=1":        plain(3),
		"i=?":        plain(3),
		"i=?2":       plain(3),
		"i=?11":      plain(3),
		"i=? 1":      plain(3),
		"i =?1":      plain(3),
		"i=true":     plain(3),
		"i?1":        plain(3),
		"ii":         plain(3),
		"\"i\"":      plain(3),
		"\"u=1\"":    plain(3),
		"i\r":        plain(3),
		"i\n":        plain(3),
		// Blanks around what counts, and what is left out behind it.
		" \t u=1\t ":    plain(1),
		"\ti ":          parts(3),
		"u=1;":          plain(1),
		"u=1 ;x":        plain(1),
		"u=1\t\t;u=2":   plain(1),
		"u=1;u=2;i":     plain(1),
		"u=1;x=\"a;b\"": plain(1),
		"i;u=1":         parts(3),
		"i=?1 ; i=?0":   parts(3),
		"i;":            parts(3),
		";u=1":          plain(3),
		" ; i":          plain(3),
		";":             plain(3),
		"u=;1":          plain(3),
		"u=1\n;x":       plain(3),
	} {
		wantParse(t, value, want)
	}
}

func TestParseOfMoreMembers(t *testing.T) {
	for value, want := range map[string]api.Priority{
		"u=1,i":         parts(1),
		"i,u=1":         parts(1),
		"u=1,u=2":       plain(2),
		"u=2,u=1":       plain(1),
		"u=1,u=8":       plain(1),
		"u=1,u=3":       plain(3),
		"i,i=?0":        plain(3),
		"i=?0,i":        parts(3),
		"i=?1,i=?0":     plain(3),
		"i=?0,i=?1":     parts(3),
		"i,i=?2":        parts(3),
		"i,I=?0":        parts(3),
		",, ,u=5 ,, ,":  plain(5),
		"i;x,u=2;i=?0":  parts(2),
		"u=1;x,y;u=2,i": parts(1),
		// A comma within quotes ends no member, and quotes that are not ended go to the end.
		"x=\"a,u=5\"":         plain(3),
		"x=\"a,u=5\",u=6":     plain(6),
		"u=1;x=\",u=2,\",i":   parts(1),
		"u=1;x=\",u=2,i":      plain(1),
		"u=1;x=\"\\\",u=2":    plain(1),
		"u=1;x=\"\\\\\",u=2":  plain(2),
		"\"u=1,u=2":           plain(3),
		"u=1;x=\"a;b\",u=4;c": plain(4),
		// The first ; ends what counts, also within quotes.
		"i\";\",u=2": plain(2),
		"\";\"i,u=2": plain(2),
	} {
		wantParse(t, value, want)
	}
}

func TestParseOfALongValue(t *testing.T) {
	wantParse(t, strings.Repeat("u=1,i,", 100000)+"u=6", parts(6))
	wantParse(t, strings.Repeat(" ", 100000)+"u=6;"+strings.Repeat(";", 100000), plain(6))
}

// said is a member that says something, and what it says.
var said = regexp.MustCompile(`(?s)^[ \t]*(?:u=([0-7])|(i)|i=\?([01]))[ \t]*(?:;.*)?$`)

// parsePlainly reads a value as the chapter words it.
func parsePlainly(value string) api.Priority {
	p := plain(3)
	for _, member := range text.List(value) {
		m := said.FindStringSubmatch(member)
		switch {
		case m == nil:
		case m[1] != "":
			p.Urgency = strings.Index("01234567", m[1])
		default:
			p.Parts = m[2] == "i" || m[3] == "1"
		}
	}
	return p
}

// eachRow hands out all rows of at most so many of the words.
func eachRow(words []string, most int, row string, do func(string)) {
	do(row)
	if most == 0 {
		return
	}
	for _, w := range words {
		eachRow(words, most-1, row+w, do)
	}
}

func TestParseOfAllShortValues(t *testing.T) {
	check := func(value string) { wantParse(t, value, parsePlainly(value)) }
	eachRow(strings.Split("ui=?0178;, \"", ""), 5, "", check)
	eachRow([]string{"u=0", "u=5", "u=8", "i", "i=?0", "i=?1", ";x", ",", " ", "\t", "\"", "\\"}, 5, "", check)
}

// P10.2

func TestFormat(t *testing.T) {
	for urgency, digit := range map[int]string{
		math.MinInt: "0", -256: "0", -8: "0", -1: "0",
		0: "0", 1: "1", 2: "2", 3: "3", 4: "4", 5: "5", 6: "6", 7: "7",
		8: "7", 9: "7", 10: "7", 256: "7", 1 << 32: "7", math.MaxInt: "7",
	} {
		wantFormat(t, plain(urgency), "u="+digit)
		wantFormat(t, parts(urgency), "u="+digit+", i")
	}
}

// P10.5

func TestParseOfFormat(t *testing.T) {
	for urgency := -300; urgency <= 300; urgency++ {
		counts := min(max(urgency, 0), 7)
		wantParse(t, Format(plain(urgency)), plain(counts))
		wantParse(t, Format(parts(urgency)), parts(counts))
	}
}
