package app

import (
	"strings"

	"ostler/api"
	"ostler/disk"
	"ostler/files"
)

// call is a request that was led to a route, and all that its handler may know.
type call struct {
	snap    *disk.Snap
	request api.Request
	path    string // the clean one
	root    string
	params  []api.Param
}

// handled is what a handler answers. The router has no routes of other handlers.
func (c call) handled(h api.Handler) api.Response {
	handlers := []func(call) api.Response{
		api.Files: call.file,
		api.Echo:  call.echo,
		api.Hello: call.hello,
		api.Gone:  call.gone,
	}
	return handlers[h](c)
}

func (c call) file() api.Response {
	return files.Answer(c.snap, c.root, c.request.Method, c.path, c.rest(), c.request.Fields)
}

func (c call) echo() api.Response {
	return api.Response{
		Status: 200,
		Fields: contentType(c.kind()),
		Body:   c.request.Body,
		// A copy, as what is answered shares nothing with what was asked.
		Trailers: append([]api.Field(nil), c.request.Trailers...),
	}
}

func (c call) hello() api.Response {
	var line strings.Builder
	line.WriteString("hello")
	for _, p := range c.params {
		line.WriteString(" " + p.Name + "=" + p.Value)
	}
	line.WriteString("\n")
	return api.Response{Status: 200, Fields: contentType("text/plain"), Body: line.String()}
}

func (c call) gone() api.Response { return files.Plain(410) }

// rest is what the last part of the pattern that catches anything has caught.
func (c call) rest() string {
	if len(c.params) == 0 {
		return ""
	}
	return c.params[len(c.params)-1].Value
}

// kind is what the request says of its body's content.
func (c call) kind() string {
	for _, f := range c.request.Fields {
		if f.Name == "content-type" {
			return f.Value
		}
	}
	return "application/octet-stream"
}

func contentType(kind string) []api.Field {
	return []api.Field{{Name: "content-type", Value: kind}}
}
