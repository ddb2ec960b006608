package h1read

import (
	"strings"

	"ostler/api"
	"ostler/text"
)

const fieldSize = 32 // that a field counts beside its bytes

// line is a line that is being read.
type line struct {
	bytes []byte
	ended bool // its CR was taken
}

func (l line) held() int {
	if l.ended {
		return len(l.bytes) + 1
	}
	return len(l.bytes)
}

// readLine reads a line of so many bytes at most; a longer one has that status. What is read with a whole line, use says.
func (r *Reader) readLine(data string, most, status int, use func(line string) api.Piece) (int, api.Piece) {
	for i := range len(data) {
		b := data[i]
		switch {
		case r.line.ended != (b == '\n'):
			return i + 1, r.breaks(400)
		case r.line.ended:
			whole := string(r.line.bytes)
			r.line = line{}
			return i + 1, use(whole)
		case b == '\r':
			r.line.ended = true
		case len(r.line.bytes) == most:
			return i + 1, r.breaks(status)
		default:
			r.line.bytes = append(r.line.bytes, b)
		}
	}
	return len(data), api.Piece{}
}

// fields are a list of fields that is being read.
type fields struct {
	list []api.Field
	size int // as msg.Size counts them
}

// add adds a field.
func (f *fields) add(field api.Field) {
	f.list = append(f.list, field)
	f.size += fieldSize + len(field.Name) + len(field.Value)
}

// held is how many bytes their names and values have.
func (f fields) held() int { return f.size - fieldSize*len(f.list) }

// addField adds the field that a line is.
func (r *Reader) addField(line string) api.Piece {
	field, is := fieldOf(line)
	if !is {
		return r.breaks(400)
	}
	r.fields.add(field)
	if r.fields.size > r.list {
		return r.breaks(431)
	}
	return api.Piece{}
}

// fieldOf is the field that a line is, if it is one.
func fieldOf(line string) (api.Field, bool) {
	name, value, is := strings.Cut(line, ":")
	value = text.Trim(value)
	if !is || !text.Token(name) || !text.Value(value) {
		return api.Field{}, false
	}
	// Copies, or else the blanks around a short value would be kept with it.
	return api.Field{Name: strings.Clone(text.Lower(name)), Value: strings.Clone(value)}, true
}

// has tells whether there is a field of a name.
func has(list []api.Field, name string) bool {
	for _, f := range list {
		if f.Name == name {
			return true
		}
	}
	return false
}

// members are those of all fields of a name.
func members(list []api.Field, name string) []string {
	var all []string
	for _, f := range list {
		if f.Name == name {
			all = append(all, text.List(f.Value)...)
		}
	}
	return all
}

// holds tells whether a word is among members, but for the case of letters.
func holds(members []string, word string) bool {
	for _, m := range members {
		if text.Same(m, word) {
			return true
		}
	}
	return false
}
