package model

import "tappet/api"

// The six services for interrupts are M11.

// mostSuspended is how far a count goes.
const mostSuspended = 255

func (m *Model) enableAllInterrupts(api.Step) api.Answer {
	m.gate.Shut = false
	return done()
}

func (m *Model) disableAllInterrupts(api.Step) api.Answer {
	m.gate.Shut = true
	return done()
}

func (m *Model) resumeAllInterrupts(api.Step) api.Answer {
	m.gate.All = max(m.gate.All-1, 0)
	return done()
}

func (m *Model) suspendAllInterrupts(api.Step) api.Answer {
	m.gate.All = min(m.gate.All+1, mostSuspended)
	return done()
}

func (m *Model) resumeOSInterrupts(api.Step) api.Answer {
	m.gate.Os = max(m.gate.Os-1, 0)
	return done()
}

func (m *Model) suspendOSInterrupts(api.Step) api.Answer {
	m.gate.Os = min(m.gate.Os+1, mostSuspended)
	return done()
}
