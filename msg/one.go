package msg

import (
	"strings"

	"ostler/api"
	"ostler/text"
)

// One makes a request of a request line and fields of HTTP/1.1.
func One(method, target string, fields []api.Field) (api.Request, api.Errno) {
	if !text.Token(method) {
		return api.Request{}, api.ErrPseudo
	}
	host, is := onlyHost(fields)
	if !is || !areSound(fields) {
		return api.Request{}, api.ErrField
	}
	r, is := aim(target, host)
	if !is || !isPath(method, r.Path) {
		return api.Request{}, api.ErrPseudo
	}
	if _, _, err := Length(fields); err != api.OK {
		return api.Request{}, err
	}
	r.Method = method
	r.Fields = passedOn(fields)
	return r, api.OK
}

// onlyHost is the host that fields name, if they name one just once.
func onlyHost(fields []api.Field) (string, bool) {
	host, count := "", 0
	for _, f := range fields {
		if text.Same(f.Name, "host") {
			host = f.Value
			count++
		}
	}
	return host, count == 1
}

func areSound(fields []api.Field) bool {
	for _, f := range fields {
		if !isSound(f) {
			return false
		}
	}
	return true
}

// aim is a request for what a target says, of a host unless the target names its own; false, if it names an empty one.
func aim(target, host string) (api.Request, bool) {
	scheme, rest, is := strings.Cut(target, "://")
	if !is || scheme != "http" && scheme != "https" {
		return api.Request{Scheme: "http", Authority: host, Path: target}, true
	}
	authority, path := rest, ""
	if end := strings.IndexAny(rest, "/?"); end >= 0 {
		authority, path = rest[:end], rest[end:]
	}
	if !strings.HasPrefix(path, "/") {
		path = "/" + path
	}
	return api.Request{Scheme: scheme, Authority: authority, Path: path}, authority != ""
}

// passedOn is the fields that are for more than the connection, with their names in small letters.
func passedOn(fields []api.Field) []api.Field {
	named := namedByConnection(fields)
	var rest []api.Field
	for _, f := range Strip(fields) {
		f = small(f)
		_, is := named[f.Name]
		// A length that is not passed on would change where the body ends.
		is = is && f.Name != "content-length"
		if !is && f.Name != "host" && f.Name != "te" {
			rest = append(rest, f)
		}
	}
	return rest
}

// namedByConnection is the names of fields that a client says are for the connection alone, in small letters.
func namedByConnection(fields []api.Field) map[string]struct{} {
	named := map[string]struct{}{}
	for _, f := range fields {
		if !text.Same(f.Name, "connection") {
			continue
		}
		for _, name := range strings.Split(f.Value, ",") {
			named[text.Lower(text.Trim(name))] = struct{}{}
		}
	}
	return named
}
