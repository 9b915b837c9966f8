package model

import "tappet/api"

// join lays a task's id at the tail of the ring of its base priority.
func (m *Model) join(id int) {
	p := m.c.Tasks[id].Priority
	m.rings[p] = append(m.rings[p], id)
}

// activate is M5; false: it has as many activations as may be.
func (m *Model) activate(id int) bool {
	t := &m.tasks[id]
	if t.active >= m.c.Tasks[id].Activation {
		return false
	}
	t.active++
	if t.state == api.Suspended {
		t.state = api.Ready
		t.set = 0
	}
	m.join(id)
	return true
}

// activateTask is M5.
func (m *Model) activateTask(s api.Step) api.Answer {
	if !m.isTask(s.A) {
		return refused(api.EID)
	}
	if !m.activate(int(s.A)) {
		return refused(api.ELimit)
	}
	return done()
}

// me is the task that calls: at its level nothing else is on top.
func (m *Model) me() int { return m.top().frame.ID }

// holds: the task that calls holds a resource.
func (m *Model) holds() bool { return len(m.tasks[m.me()].held) > 0 }

// leave: the running task begins to leave (M7).
func (m *Model) leave(how api.LeaveKind) api.Answer {
	m.leaving = how
	id, _ := m.running()
	m.beginHook(m.c.OS.PostTask, api.Frame{Kind: api.FPost, ID: id})
	return done()
}

// terminateTask is M6.
func (m *Model) terminateTask(api.Step) api.Answer {
	if m.holds() {
		return refused(api.EResource)
	}
	return m.leave(api.LeaveEnd)
}

// chainTask is M6.
func (m *Model) chainTask(s api.Step) api.Answer {
	switch {
	case !m.isTask(s.A):
		return refused(api.EID)
	case m.holds():
		return refused(api.EResource)
	case int(s.A) == m.me():
		return m.leave(api.LeaveAgain)
	case !m.activate(int(s.A)):
		return refused(api.ELimit)
	}
	return m.leave(api.LeaveEnd)
}

// schedule is M6.
func (m *Model) schedule(api.Step) api.Answer {
	if m.holds() {
		return refused(api.EResource)
	}
	if m.ready() <= m.c.Tasks[m.me()].Priority {
		return done()
	}
	return m.leave(api.LeaveYield)
}

// carryOut carries out the leaving of the running task (M7).
func (m *Model) carryOut() {
	id, _ := m.running()
	t := &m.tasks[id]
	how := m.leaving
	m.leaving = api.LeaveNone
	m.pop()
	if how != api.LeavePreempt {
		t.internal = false
	}
	t.state = api.Ready
	switch how {
	case api.LeaveEnd:
		t.active--
		if t.active == 0 {
			t.state = api.Suspended
		}
	case api.LeaveAgain:
		t.set = 0
		m.join(id)
	case api.LeaveWait:
		t.state = api.Waiting
		m.wake(id)
	case api.LeavePreempt, api.LeaveYield:
		m.preempted = append(m.preempted, id)
	}
}

// runBest is M8.
func (m *Model) runBest() {
	id := m.takeBest()
	_, has := m.internal(id)
	m.tasks[id].state, m.tasks[id].internal = api.Running, has
	m.push(api.Frame{Kind: api.FTask, ID: id})
	m.beginHook(m.c.OS.PreTask, api.Frame{Kind: api.FPre, ID: id})
}

// takeBest takes the best off its stack, or off its ring.
func (m *Model) takeBest() int {
	p := m.ready()
	last := len(m.preempted) - 1
	if last >= 0 && m.priority(m.preempted[last]) >= p {
		id := m.preempted[last]
		m.preempted = m.preempted[:last]
		return id
	}
	id := m.rings[p][0]
	m.rings[p] = m.rings[p][1:]
	return id
}
