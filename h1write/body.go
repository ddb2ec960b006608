package h1write

import (
	"strconv"

	"ostler/api"
)

const hexadecimal = 16

// parts is a body cut into texts of at most a frame's length, so that either version sends as much at a time.
func parts(body string) []string {
	var all []string
	for len(body) > api.FrameMost {
		all = append(all, body[:api.FrameMost])
		body = body[api.FrameMost:]
	}
	if body != "" {
		all = append(all, body)
	}
	return all
}

// chunks is a body whose client learns the length part by part, and then the trailers.
func chunks(r api.Response) []string {
	all := parts(r.Body)
	for i, part := range all {
		all[i] = strconv.FormatInt(int64(len(part)), hexadecimal) + lineEnd + part + lineEnd
	}
	return append(all, "0"+lineEnd+writeFields(r.Trailers)+lineEnd)
}
