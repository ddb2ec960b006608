package stream

import "ostler/api"

// verdict is what a step does to a stream: to which phase it goes, what is wrong, and whether the step counts.
type verdict struct {
	to     api.Phase
	wrong  api.Wrong
	counts bool
}

// judge is what a step does to a stream that is in some phase. Headers of an Idle one are not for it: they change the book.
func judge(step api.Step, now api.Phase, end bool) verdict {
	switch step {
	case api.GotHeaders:
		return gotHeaders(now, end)
	case api.GotData:
		return gotData(now, end)
	case api.GotReset:
		return gotReset(now)
	case api.GotWindow:
		return gotWindow(now)
	case api.GotPriority:
		return gotPriority(now)
	case api.SentHeaders, api.SentData:
		return sent(now, end)
	case api.SentReset:
		return sentReset(now)
	}
	return verdict{to: now, wrong: withStream(api.Internal)}
}

func gotHeaders(now api.Phase, end bool) verdict {
	// A second block of headers is the trailers, behind which nothing stands.
	if !end && (now == api.Live || now == api.Replied) {
		return verdict{to: now, wrong: withStream(api.Protocol)}
	}
	return gotData(now, end)
}

func gotData(now api.Phase, end bool) verdict {
	switch now {
	case api.Idle:
		return verdict{to: now, wrong: withConn(api.Protocol)}
	case api.Asked:
		return verdict{to: now, wrong: withStream(api.StreamClosed)}
	case api.Over:
		return verdict{to: now, wrong: withConn(api.StreamClosed)}
	case api.Dropped:
		return verdict{to: now}
	}
	to := now
	if end {
		to = clientEnded(now)
	}
	return verdict{to: to, counts: true}
}

func gotReset(now api.Phase) verdict {
	if now == api.Idle {
		return verdict{to: now, wrong: withConn(api.Protocol)}
	}
	return verdict{to: api.Over, counts: isOpen(now)}
}

func gotWindow(now api.Phase) verdict {
	if now == api.Idle {
		return verdict{to: now, wrong: withConn(api.Protocol)}
	}
	return verdict{to: now, counts: isOpen(now)}
}

func gotPriority(now api.Phase) verdict { return verdict{to: now, counts: isOpen(now)} }

func sent(now api.Phase, end bool) verdict {
	if now != api.Live && now != api.Asked {
		return verdict{to: now, wrong: withStream(api.Internal)}
	}
	to := now
	if end {
		to = serverEnded(now)
	}
	return verdict{to: to, counts: true}
}

func sentReset(now api.Phase) verdict {
	switch {
	case now == api.Idle:
		return verdict{to: now, wrong: withStream(api.Internal)}
	case isOpen(now):
		return verdict{to: api.Dropped, counts: true}
	}
	return verdict{to: now}
}

// noStream is what is wrong with a step on a stream that there cannot be.
func noStream(step api.Step) api.Wrong {
	switch step {
	case api.SentHeaders, api.SentData, api.SentReset:
		return withStream(api.Internal)
	}
	return withConn(api.Protocol)
}

// got tells whether a step comes from the client.
func got(step api.Step) bool {
	switch step {
	case api.GotHeaders, api.GotData, api.GotReset, api.GotWindow, api.GotPriority:
		return true
	}
	return false
}

// clientEnded is the phase of a Live or Replied stream when the client sends no more.
func clientEnded(now api.Phase) api.Phase {
	if now == api.Live {
		return api.Asked
	}
	return api.Over
}

// serverEnded is the phase of a Live or Asked stream when the server sends no more.
func serverEnded(now api.Phase) api.Phase {
	if now == api.Live {
		return api.Replied
	}
	return api.Over
}

func isOpen(p api.Phase) bool { return p == api.Live || p == api.Asked || p == api.Replied }

func withStream(c api.Code) api.Wrong { return api.Wrong{Is: true, Code: c} }

func withConn(c api.Code) api.Wrong { return api.Wrong{Is: true, Conn: true, Code: c} }
