package model

import (
	"slices"

	"tappet/api"
)

// idle is the answer of a step that changes nothing.
func idle() api.Answer { return api.Answer{Idle: true} }

// refused is the answer of one that is not done.
func refused(s api.Status) api.Answer { return api.Answer{Status: s} }

// done is the answer of one that is done, with the values that it tells.
func done(values ...uint32) api.Answer {
	var a api.Answer
	copy(a.V[:], values)
	return a
}

// do does what a step brings, ahead of settling.
func (m *Model) do(s api.Step) api.Answer {
	switch s.Kind {
	case api.SStart:
		return m.start(s.ID)
	case api.SCall:
		return m.call(s)
	case api.SReturn:
		return m.endBody()
	case api.SIrq:
		return m.request(s.ID)
	case api.STick:
		return m.tick(s.ID)
	}
	return idle()
}

// start is M1.
func (m *Model) start(mode int) api.Answer {
	if m.phase != api.Off {
		return idle()
	}
	if mode < 0 || mode >= len(m.c.Modes) {
		return refused(api.EID)
	}
	m.phase, m.mode = api.Up, mode
	for id, t := range m.c.Tasks {
		if slices.Contains(t.Auto, mode) {
			m.activate(id)
		}
	}
	for id, a := range m.c.Alarms {
		if slices.Contains(a.Auto, mode) {
			m.alarms[id] = api.AlarmLook{Set: true, Left: a.Time, Cycle: a.Cycle}
		}
	}
	m.beginHook(m.c.OS.Startup, api.Frame{Kind: api.FStartup})
	return done()
}

// begin begins a routine.
func (m *Model) begin(f api.Frame) {
	m.push(f)
	m.begun = append(m.begun, f)
}

// beginHook begins the routine of a hook, if there is one.
func (m *Model) beginHook(there bool, f api.Frame) {
	if there {
		m.begin(f)
	}
}

// fail is an error (M2).
func (m *Model) fail(s api.Status, service int, parameter uint32) {
	for _, c := range m.frames {
		if c.frame.Kind == api.FError {
			return
		}
	}
	m.errors = append(m.errors, api.Frame{Kind: api.FError, Status: s, Service: service, Param: parameter})
}

// endBody is M3.
func (m *Model) endBody() api.Answer {
	switch f := m.top().frame; f.Kind {
	case api.FNone:
		return idle()
	case api.FTask:
		return m.endTask(f.ID)
	case api.FIsr:
		m.releaseOfIsr(f.ID)
		if m.gate != m.top().gate {
			m.fail(api.EDisabled, 0, 0)
		}
	}
	m.gate = m.top().gate
	m.pop()
	return done()
}

// endTask is M3 of a task that calls nothing to end.
func (m *Model) endTask(id int) api.Answer {
	m.tasks[id].held = nil
	m.gate = api.Gate{}
	m.fail(api.EMissingEnd, api.SvTerminateTask, 0)
	m.leave(api.LeaveEnd)
	return refused(api.EMissingEnd)
}

// releaseOfIsr releases what an ISR holds at its end.
func (m *Model) releaseOfIsr(id int) {
	n := len(m.held[id])
	if n == 0 {
		return
	}
	m.fail(api.EResource, api.SvReleaseResource, uint32(m.held[id][n-1]))
	m.held[id] = nil
}

// request is M4 of an ISR.
func (m *Model) request(isr int) api.Answer {
	if !m.isUp() {
		return idle()
	}
	if isr < 0 || isr >= len(m.c.Isrs) {
		return refused(api.EID)
	}
	m.requested[isr] = true
	return done()
}

// tick is M4 of a counter.
func (m *Model) tick(counter int) api.Answer {
	if !m.isUp() {
		return idle()
	}
	if counter < 0 || counter >= len(m.c.Counters) {
		return refused(api.EID)
	}
	if m.counters[counter] == m.c.Counters[counter].Max {
		m.counters[counter] = 0
	} else {
		m.counters[counter]++
	}
	a := done()
	for id := range m.alarms {
		if m.c.Alarms[id].Counter == counter && m.expires(id) {
			a.Expired = append(a.Expired, id)
		}
	}
	for _, id := range a.Expired {
		m.act(id)
	}
	return a
}

// expires takes a tick from what an alarm has left, and tells whether it expires.
func (m *Model) expires(id int) bool {
	a := &m.alarms[id]
	if !a.Set {
		return false
	}
	a.Left--
	if a.Left > 0 {
		return false
	}
	a.Left = a.Cycle
	a.Set = a.Cycle > 0
	return true
}

// act does the action of an alarm.
func (m *Model) act(alarm int) {
	switch a := m.c.Alarms[alarm].Action; a.Kind {
	case api.ActTask:
		if !m.activate(a.Task) {
			m.fail(api.ELimit, api.SvActivateTask, uint32(a.Task))
		}
	case api.ActEvent:
		if m.tasks[a.Task].state == api.Suspended {
			m.fail(api.EState, api.SvSetEvent, uint32(a.Task))
		} else {
			m.set(a.Task, m.c.Events[a.Event].Mask)
		}
	case api.ActCallback:
		if !slices.Contains(m.callbacks, alarm) {
			m.callbacks = append(m.callbacks, alarm)
		}
	}
}
