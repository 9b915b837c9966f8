package model

import (
	"tappet/api"
	"tappet/class"
)

// set sets events of a task (M9).
func (m *Model) set(id int, mask uint32) {
	m.tasks[id].set |= mask
	m.wake(id)
}

// wake makes a waiting task ready, if an event that it waits for is set (M7, M9).
func (m *Model) wake(id int) {
	t := &m.tasks[id]
	if t.state == api.Waiting && t.set&t.waits != 0 {
		t.state, t.waits = api.Ready, 0
		m.join(id)
	}
}

// isExtended: of a task.
func (m *Model) isExtended(id int) bool { return class.Extended(m.c, id) }

// lacksEvents is why events of a task are not to be had; EOK: they are (M9).
func (m *Model) lacksEvents(task uint32) api.Status {
	switch {
	case !m.isTask(task):
		return api.EID
	case !m.isExtended(int(task)):
		return api.EAccess
	case m.tasks[task].state == api.Suspended:
		return api.EState
	}
	return api.EOK
}

// setEvent is M9.
func (m *Model) setEvent(s api.Step) api.Answer {
	if why := m.lacksEvents(s.A); why != api.EOK {
		return refused(why)
	}
	m.set(int(s.A), s.B)
	return done()
}

// clearEvent is M9.
func (m *Model) clearEvent(s api.Step) api.Answer {
	if !m.isExtended(m.me()) {
		return refused(api.EAccess)
	}
	m.tasks[m.me()].set &^= s.A
	return done()
}

// getEvent is M9.
func (m *Model) getEvent(s api.Step) api.Answer {
	if why := m.lacksEvents(s.A); why != api.EOK {
		return refused(why)
	}
	return done(m.tasks[s.A].set)
}

// waitEvent is M9.
func (m *Model) waitEvent(s api.Step) api.Answer {
	t := &m.tasks[m.me()]
	switch {
	case !m.isExtended(m.me()):
		return refused(api.EAccess)
	case m.holds():
		return refused(api.EResource)
	case t.set&s.A != 0:
		return done()
	}
	t.waits = s.A
	return m.leave(api.LeaveWait)
}
