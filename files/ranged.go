package files

import (
	"ostler/api"
	"ostler/ranges"
	"ostler/tags"
)

// asked is the list of ranges that a request is for; false, if it is for the whole file.
func asked(method string, fields []api.Field, file api.File) (string, bool) {
	value, count := "", 0
	for _, f := range fields {
		if f.Name == "range" {
			value = f.Value
			count++
		}
	}
	return value, method == "GET" && count == 1 && tags.Same(fields, file)
}

// ranged is the answer of the ranges of a file that a value lists, or of all of it, if that is no such list.
func ranged(found api.Entry, value string) api.Response {
	size := len(found.File.Body)
	list, err := ranges.Parse(value, size)
	switch {
	case err == api.ErrEmpty:
		return Plain(416, told(ranges.Unmet(size)))
	case err != api.OK:
		return whole(found)
	case len(list) == 1:
		return single(found, list[0])
	}
	return several(found, list)
}

// single is the answer of one range.
func single(found api.Entry, r api.Range) api.Response {
	body := found.File.Body
	fields := heads(found, Kind(found.Path))
	return api.Response{
		Status: 206,
		Fields: append(fields, told(ranges.Told(r, len(body)))),
		Body:   body[r.From : r.To+1],
	}
}

// several is the answer of more ranges than one, each in a part of its own.
func several(found api.Entry, list []api.Range) api.Response {
	body := found.File.Body
	line := ranges.Line(body)
	// No range is beyond the body, as Parse answered them for its size.
	parts, _ := ranges.Parts(body, Kind(found.Path), line, list...)
	return api.Response{
		Status: 206,
		Fields: heads(found, "multipart/byteranges; boundary="+line),
		Body:   parts,
	}
}

func told(value string) api.Field { return api.Field{Name: "content-range", Value: value} }
