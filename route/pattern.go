package route

import (
	"slices"
	"strings"
)

// parse is the parts of a pattern and the names in it, in their order; false, if it is none.
func parse(pattern string) ([]part, []string, bool) {
	below, is := strings.CutPrefix(pattern, "/")
	if !is {
		return nil, nil, false
	}
	if below == "" {
		return nil, nil, true
	}
	var parts []part
	var names []string
	for _, s := range strings.Split(below, "/") {
		p, name, is := parsePart(s)
		if !is || len(parts) > 0 && parts[len(parts)-1].kind() == isRest {
			return nil, nil, false
		}
		parts = append(parts, p)
		if p.kind() != isPlain {
			names = append(names, name)
		}
	}
	return parts, names, !repeated(names)
}

// parsePart is one part of a pattern, and its name if it has one.
func parsePart(s string) (part, string, bool) {
	inner, opened := strings.CutPrefix(s, "{")
	if !opened {
		return plain(s), "", plainText(s)
	}
	inner, closed := strings.CutSuffix(inner, "}")
	name, long := strings.CutSuffix(inner, "...")
	switch {
	case !closed || !nameText(name):
		return nil, "", false
	case long:
		return rest{}, name, true
	}
	return catching{}, name, true
}

// shapeText is the same for patterns of one shape alone: a plain part has no braces.
func shapeText(parts []part) string {
	var b strings.Builder
	for _, p := range parts {
		b.WriteString("/")
		b.WriteString(p.shape())
	}
	return b.String()
}

// plainText tells whether a text may be a plain part.
func plainText(s string) bool {
	for i := range len(s) {
		if s[i] < 0x21 || s[i] > 0x7E || s[i] == '{' || s[i] == '}' {
			return false
		}
	}
	return s != ""
}

// nameText tells whether a text may be a name.
func nameText(s string) bool {
	for i := range len(s) {
		letter, digit := 'a' <= s[i] && s[i] <= 'z', '0' <= s[i] && s[i] <= '9'
		if !letter && (!digit || i == 0) {
			return false
		}
	}
	return s != ""
}

// repeated tells whether a name stands there twice.
func repeated(names []string) bool {
	sorted := slices.Sorted(slices.Values(names))
	return len(slices.Compact(sorted)) < len(names)
}
