package ranges

import (
	"slices"
	"strings"

	"ostler/api"
	"ostler/text"
)

const (
	word    = "part" // ahead of the number of a line
	dashes  = "--"
	lineEnd = "\r\n"
)

// Line is a line that does not stand in a body.
func Line(body string) string { return word + text.Decimal(leastFree(taken(body))) }

// Parts is a body of several ranges.
func Parts(body, kind, line string, list ...api.Range) (string, api.Errno) {
	if len(list) == 0 {
		return "", api.ErrArg
	}
	for _, r := range list {
		if !within(r, len(body)) {
			return "", api.ErrArg
		}
	}
	var out strings.Builder
	for _, r := range list {
		writeLine(&out, dashes, line)
		writeLine(&out, "Content-Type: ", kind)
		writeLine(&out, "Content-Range: ", Told(r, len(body)))
		writeLine(&out)
		writeLine(&out, body[r.From:r.To+1])
	}
	writeLine(&out, dashes, line, dashes)
	return out.String(), api.OK
}

// writeLine writes texts and a line's end.
func writeLine(out *strings.Builder, texts ...string) {
	for _, s := range texts {
		out.WriteString(s)
	}
	out.WriteString(lineEnd)
}

// taken is the numbers whose lines stand in a body, in any order, but for those that are greater than its size.
func taken(body string) []int {
	// One look at the body finds all of them: to look for each number on its own takes too long, if there are many.
	var all []int
	most := len(body)
	_, body, is := strings.Cut(body, word)
	for is {
		all = appendNumbers(all, body, most)
		_, body, is = strings.Cut(body, word)
	}
	return all
}

// appendNumbers adds the numbers up to most that a text begins with: 12 begins with 1, too.
func appendNumbers(all []int, s string, most int) []int {
	n := 0
	for i := 0; i < len(s) && '0' <= s[i] && s[i] <= '9'; i++ {
		n = n*10 + int(s[i]-'0')
		// No body has so many lines that a greater number is its least free one.
		if n > most {
			break
		}
		all = append(all, n)
		// Behind a nought ahead there is no decimal any more.
		if n == 0 {
			break
		}
	}
	return all
}

// leastFree is the least number from 0 on that is none of these.
func leastFree(taken []int) int {
	slices.Sort(taken)
	free := 0
	for _, n := range taken {
		if n == free {
			free++
		}
	}
	return free
}
