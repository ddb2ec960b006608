package msg

import (
	"ostler/api"
	"ostler/text"
)

// Two makes a request of a header list of HTTP/2.
func Two(list []api.Field) (api.Request, api.Errno) {
	var h head
	for _, f := range list {
		if err := h.add(f); err != api.OK {
			return api.Request{}, err
		}
	}
	if err := h.fault(); err != api.OK {
		return api.Request{}, err
	}
	return h.request(), api.OK
}

// head is what a header list says, as far as it was gone through.
type head struct {
	method, scheme, path, authority, host part

	begun  bool        // the fields behind the pseudo-fields
	fields []api.Field // the others
}

// part is what a header list may say once.
type part struct {
	value string
	said  bool
}

// say lays a value down, unless one was said already.
func (p *part) say(value string) bool {
	if p.said {
		return false
	}
	*p = part{value: value, said: true}
	return true
}

// add goes on by a field, unless it may not stand there.
func (h *head) add(f api.Field) api.Errno {
	if isPseudo(f) {
		return h.addPseudo(f)
	}
	h.begun = true
	return h.addField(f)
}

func (h *head) addPseudo(f api.Field) api.Errno {
	p := h.pseudo(f.Name)
	if h.begun || p == nil || !p.say(f.Value) {
		return api.ErrPseudo
	}
	return api.OK
}

// pseudo is what a pseudo-field says, or nil, if there is none of that name.
func (h *head) pseudo(name string) *part {
	switch name {
	case ":method":
		return &h.method
	case ":scheme":
		return &h.scheme
	case ":path":
		return &h.path
	case ":authority":
		return &h.authority
	}
	return nil
}

func (h *head) addField(f api.Field) api.Errno {
	if !isPlain(f) {
		return api.ErrField
	}
	switch f.Name {
	case "te":
		if f.Value != "trailers" {
			return api.ErrField
		}
	case "host":
		if !h.host.say(f.Value) {
			return api.ErrField
		}
	default:
		h.fields = append(h.fields, f)
	}
	return api.OK
}

// fault is what is wrong with the whole of a list. A pseudo-field that is missing is as wrong as an empty one.
func (h *head) fault() api.Errno {
	method, scheme := h.method.value, h.scheme.value
	if !text.Token(method) || scheme != "http" && scheme != "https" || !isPath(method, h.path.value) {
		return api.ErrPseudo
	}
	if h.authority.said && h.host.said && h.authority.value != h.host.value {
		return api.ErrField
	}
	_, _, err := Length(h.fields)
	return err
}

func (h *head) request() api.Request {
	authority := h.authority
	if !authority.said {
		authority = h.host
	}
	return api.Request{
		Method:    h.method.value,
		Scheme:    h.scheme.value,
		Authority: authority.value,
		Path:      h.path.value,
		Fields:    h.fields,
	}
}
