package frame

import (
	"strings"

	"ostler/api"
)

const (
	streamBytes   = 4
	onlyBit       = 1 << 31 // the highest one of a stream's bytes
	padBytes      = 1       // that say how much padding there is
	priorityBytes = streamBytes + 1
	codeBytes     = 4
	pingBytes     = 8
	idBytes       = 2
	settingBytes  = idBytes + 4
)

// Parse is what a frame says, and what is wrong with it.
func Parse(f api.Frame) (api.Parts, api.Wrong) {
	p, wrong := parts(f)
	if wrong.Is {
		return api.Parts{}, wrong
	}
	p.Data = strings.Clone(p.Data)
	return p, wrong
}

// parts is what Parse answers, but that its Data is a piece of the payload.
// In each row of the chapter's table the stream is named first, and the payload's size next.
func parts(f api.Frame) (api.Parts, api.Wrong) {
	if isMisplaced(f) {
		return api.Parts{}, ofConn(api.Protocol)
	}
	if !isSized(f) {
		return api.Parts{}, api.Wrong{Is: true, Conn: f.Kind != api.FramePriority, Code: api.FrameSize}
	}
	switch f.Kind {
	case api.FrameData:
		return ofData(f)
	case api.FrameHeaders:
		return ofHeaders(f)
	case api.FramePriority:
		return ofPriority(f.Payload), api.Wrong{}
	case api.FrameReset:
		return api.Parts{Code: code(f.Payload)}, api.Wrong{}
	case api.FrameSettings:
		return ofSettings(f.Payload)
	case api.FramePing, api.FrameMore:
		return api.Parts{Data: f.Payload}, api.Wrong{}
	case api.FrameAway:
		return ofAway(f.Payload), api.Wrong{}
	case api.FrameWindow:
		return ofWindow(f)
	case api.FrameUpdate:
		return ofUpdate(f.Payload)
	}
	return api.Parts{}, api.Wrong{}
}

// isMisplaced tells whether a frame of its kind may not be on its stream.
func isMisplaced(f api.Frame) bool {
	switch f.Kind {
	case api.FrameData, api.FrameHeaders, api.FramePriority, api.FrameReset, api.FrameMore:
		return f.Stream == 0
	case api.FrameSettings, api.FramePing, api.FrameAway, api.FrameUpdate:
		return f.Stream != 0
	}
	return f.Kind == api.FramePush
}

// isSized tells whether a payload has as many bytes as its kind asks for.
func isSized(f api.Frame) bool {
	size := len(f.Payload)
	switch f.Kind {
	case api.FrameData, api.FrameHeaders:
		return size >= headSize(f)
	case api.FramePriority:
		return size == priorityBytes
	case api.FrameReset:
		return size == codeBytes
	case api.FrameSettings:
		return size == 0 || !has(f, api.FlagAck) && size%settingBytes == 0
	case api.FramePing:
		return size == pingBytes
	case api.FrameAway:
		return size >= streamBytes+codeBytes
	case api.FrameWindow:
		return size == streamBytes
	case api.FrameUpdate:
		return size >= streamBytes
	}
	return true
}

// headSize is how many bytes stand ahead of the data of DATA and HEADERS.
func headSize(f api.Frame) int {
	size := 0
	if has(f, api.FlagPadded) {
		size += padBytes
	}
	if f.Kind == api.FrameHeaders && has(f, api.FlagPriority) {
		size += priorityBytes
	}
	return size
}

// unpad is what stands behind the head of DATA and HEADERS without the padding, and how much that is.
func unpad(f api.Frame) (data string, padding int, ok bool) {
	data = f.Payload[headSize(f):]
	if !has(f, api.FlagPadded) {
		return data, 0, true
	}
	padding = int(f.Payload[0])
	if padding > len(data) {
		return "", 0, false
	}
	return data[:len(data)-padding], padding, true
}

func ofData(f api.Frame) (api.Parts, api.Wrong) {
	data, padding, ok := unpad(f)
	if !ok {
		return api.Parts{}, ofConn(api.Protocol)
	}
	p := api.Parts{Data: data}
	if has(f, api.FlagPadded) {
		p.Pad = padBytes + padding
	}
	return p, api.Wrong{}
}

func ofHeaders(f api.Frame) (api.Parts, api.Wrong) {
	data, _, ok := unpad(f)
	if !ok {
		return api.Parts{}, ofConn(api.Protocol)
	}
	p := api.Parts{}
	if has(f, api.FlagPriority) {
		p = ofPriority(f.Payload[headSize(f)-priorityBytes:])
	}
	p.Data = data
	return p, api.Wrong{}
}

func ofPriority(bytes string) api.Parts {
	return api.Parts{
		Last:   stream(bytes),
		Only:   number(bytes[:streamBytes])&onlyBit != 0,
		Weight: int(bytes[streamBytes]) + 1,
	}
}

func ofSettings(payload string) (api.Parts, api.Wrong) {
	settings := make([]api.Setting, 0, len(payload)/settingBytes)
	for ; payload != ""; payload = payload[settingBytes:] {
		s := api.Setting{ID: number(payload[:idBytes]), Value: number(payload[idBytes:settingBytes])}
		if wrong := ofSetting(s); wrong.Is {
			return api.Parts{}, wrong
		}
		settings = append(settings, s)
	}
	return api.Parts{Settings: settings}, api.Wrong{}
}

// ofSetting is what is wrong with a setting.
func ofSetting(s api.Setting) api.Wrong {
	switch {
	case s.ID == api.SetPush && s.Value > 1:
		return ofConn(api.Protocol)
	case s.ID == api.SetWindow && s.Value > api.GreatMost:
		return ofConn(api.FlowControl)
	case s.ID == api.SetFrame && (s.Value < api.FrameMost || s.Value > longest):
		return ofConn(api.Protocol)
	}
	return api.Wrong{}
}

func ofAway(payload string) api.Parts {
	rest := payload[streamBytes:]
	return api.Parts{Last: stream(payload), Code: code(rest), Data: rest[codeBytes:]}
}

func ofWindow(f api.Frame) (api.Parts, api.Wrong) {
	more := stream(f.Payload)
	if more == 0 {
		return api.Parts{}, api.Wrong{Is: true, Conn: f.Stream == 0, Code: api.Protocol}
	}
	return api.Parts{More: more}, api.Wrong{}
}

func ofUpdate(payload string) (api.Parts, api.Wrong) {
	last := stream(payload)
	if last == 0 {
		return api.Parts{}, ofConn(api.Protocol)
	}
	return api.Parts{Last: last, Data: payload[streamBytes:]}, api.Wrong{}
}

// ofConn is what is wrong with the connection.
func ofConn(c api.Code) api.Wrong { return api.Wrong{Is: true, Conn: true, Code: c} }

// has tells whether a flag is set.
func has(f api.Frame, flag int) bool { return f.Flags&flag != 0 }

// stream is the one that bytes begin with; the highest bit is none of it.
func stream(bytes string) int { return number(bytes[:streamBytes]) & api.GreatMost }

// code is the one that bytes begin with.
func code(bytes string) api.Code { return api.Code(number(bytes[:codeBytes])) }
