package frame

import (
	"slices"

	"ostler/api"
)

const padMost = padBytes + byteMost

// Make is the frame that says so.
func Make(kind, flags, stream int, p api.Parts) (api.Frame, api.Errno) {
	f := api.Frame{Kind: kind, Flags: flags, Stream: stream}
	payload, ok := payloadOf(f, p)
	if !ok {
		return api.Frame{}, api.ErrFrame
	}
	f.Payload = string(payload)
	if unwritable(f) != api.OK || !says(f, p) {
		return api.Frame{}, api.ErrFrame
	}
	return f, api.OK
}

// payloadOf is the only payload by which a frame may say p. A number that has no room in it is cut, and
// data is put where its kind has none: such a frame does not say p, which Make asks once for all of p.
func payloadOf(f api.Frame, p api.Parts) ([]byte, bool) {
	if len(p.Data) > longest || len(p.Settings) > longest/settingBytes {
		return nil, false // ahead of so many bytes being made
	}
	var out []byte
	switch f.Kind {
	case api.FrameData:
		return dataPayload(f, p)
	case api.FrameHeaders:
		if has(f, api.FlagPadded) {
			return nil, false
		}
		if has(f, api.FlagPriority) {
			out = appendPriority(out, p)
		}
	case api.FramePriority:
		out = appendPriority(out, p)
	case api.FrameReset:
		out = appendNumber(out, int(p.Code), codeBytes)
	case api.FrameSettings:
		return settingsPayload(p.Settings), true
	case api.FramePing, api.FrameMore:
	case api.FrameAway:
		out = appendNumber(out, p.Last, streamBytes)
		out = appendNumber(out, int(p.Code), codeBytes)
	case api.FrameWindow:
		out = appendNumber(out, p.More, streamBytes)
	case api.FrameUpdate:
		out = appendNumber(out, p.Last, streamBytes)
	default:
		return nil, false
	}
	return append(out, p.Data...), true
}

func dataPayload(f api.Frame, p api.Parts) ([]byte, bool) {
	if !has(f, api.FlagPadded) {
		return []byte(p.Data), true
	}
	if p.Pad < padBytes || p.Pad > padMost {
		return nil, false
	}
	padding := p.Pad - padBytes
	out := append([]byte{byte(padding)}, p.Data...)
	return append(out, make([]byte, padding)...), true
}

func appendPriority(out []byte, p api.Parts) []byte {
	last := p.Last
	if p.Only {
		last |= onlyBit
	}
	return append(appendNumber(out, last, streamBytes), byte(p.Weight-1))
}

func settingsPayload(settings []api.Setting) []byte {
	out := make([]byte, 0, len(settings)*settingBytes)
	for _, s := range settings {
		out = appendNumber(out, s.ID, idBytes)
		out = appendNumber(out, s.Value, settingBytes-idBytes)
	}
	return out
}

// says tells whether a frame says p, and nothing is wrong with it.
func says(f api.Frame, p api.Parts) bool {
	got, wrong := parts(f)
	return !wrong.Is && got.Data == p.Data && got.Pad == p.Pad && got.Code == p.Code &&
		got.Last == p.Last && got.Weight == p.Weight && got.Only == p.Only && got.More == p.More &&
		slices.Equal(got.Settings, p.Settings)
}
