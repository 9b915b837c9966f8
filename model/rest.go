package model

import (
	"math"

	"tappet/api"
)

// getTaskID is M13.
func (m *Model) getTaskID(api.Step) api.Answer {
	id, some := m.running()
	if !some {
		return done(math.MaxUint32)
	}
	return done(uint32(id))
}

// getTaskState is M13.
func (m *Model) getTaskState(s api.Step) api.Answer {
	if !m.isTask(s.A) {
		return refused(api.EID)
	}
	return done(uint32(m.tasks[s.A].state))
}

// getActiveApplicationMode is M13.
func (m *Model) getActiveApplicationMode(api.Step) api.Answer { return done(uint32(m.mode)) }

// shutdownOS is M13: all is as at first, but the mode and the counters. (What ISRs hold is gone with their frames.)
func (m *Model) shutdownOS(s api.Step) api.Answer {
	first := m.first()
	first.phase, first.mode, first.counters = api.Down, m.mode, m.counters
	m.state = first
	m.beginHook(m.c.OS.Shutdown, api.Frame{Kind: api.FShutdown, Status: api.Status(s.A)})
	return done()
}
