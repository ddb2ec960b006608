package tags

import (
	"slices"
	"strings"

	"ostler/api"
	"ostler/date"
)

// What the conditions of a request come to.
const (
	goOn        = 0
	notModified = 304
	failed      = 412
)

// Decide is what the conditions of a request come to: 0 (go on), 304 or 412.
func Decide(method string, fields []api.Field, f api.File, there bool) int {
	if !mayGoOn(fields, f, there) {
		return failed
	}
	reads := method == "GET" || method == "HEAD"
	if value, is := valueOf(fields, "if-none-match"); is {
		switch {
		case !names(value, f, there, Weak):
			return goOn
		case reads:
			return notModified
		}
		return failed
	}
	if since, is := dateOf(fields, "if-modified-since"); is && there && reads && f.Time <= since {
		return notModified
	}
	return goOn
}

// Same tells whether the condition of a range holds.
func Same(fields []api.Field, f api.File) bool {
	value, is := valueOf(fields, "if-range")
	if !is {
		return true
	}
	if list, _, _ := Parse(value); len(list) == 1 {
		return Strong(list[0], own(f))
	}
	second, err := date.Parse(value)
	return err == api.OK && second == f.Time
}

// mayGoOn tells whether the file is one that a client still knows, if it asks for that.
func mayGoOn(fields []api.Field, f api.File, there bool) bool {
	if value, is := valueOf(fields, "if-match"); is {
		return names(value, f, there, Strong)
	}
	since, is := dateOf(fields, "if-unmodified-since")
	return !is || !there || f.Time <= since
}

// names tells whether a list is a star or has a tag that is alike the file's. No list does not.
func names(value string, f api.File, there bool, alike func(a, b Tag) bool) bool {
	if !there {
		return false
	}
	list, star, _ := Parse(value)
	mine := own(f)
	return star || slices.ContainsFunc(list, func(tag Tag) bool { return alike(tag, mine) })
}

// own is a file's tag, as a list would have it.
func own(f api.File) Tag { return Tag{Value: Make(f)} }

// valuesOf is the values of all fields of a name.
func valuesOf(fields []api.Field, name string) []string {
	var values []string
	for _, f := range fields {
		if f.Name == name {
			values = append(values, f.Value)
		}
	}
	return values
}

// valueOf is the value of fields of a name; false, if there is none of that name.
func valueOf(fields []api.Field, name string) (string, bool) {
	values := valuesOf(fields, name)
	return strings.Join(values, ", "), values != nil
}

// dateOf is the second that the field of a name says; false, if it is no date.
func dateOf(fields []api.Field, name string) (int, bool) {
	values := valuesOf(fields, name)
	// Two are no date, even if they were one with a comma between them, as a date has one behind its day of the week.
	if len(values) != 1 {
		return 0, false
	}
	second, err := date.Parse(values[0])
	return second, err == api.OK
}
