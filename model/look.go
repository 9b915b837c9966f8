package model

import (
	"slices"

	"tappet/api"
)

// Look answers how it stands (P23.3).
func (m *Model) Look() api.Look {
	if m.none() {
		return api.Look{}
	}
	return api.Look{
		Phase:     m.phase,
		Mode:      m.mode,
		Tasks:     m.lookAtTasks(),
		Frames:    m.lookAtFrames(),
		Requested: m.lookAtRequests(),
		Held:      copied(m.held),
		Shut:      m.gate.Shut,
		All:       m.gate.All,
		Os:        m.gate.Os,
		Counters:  slices.Clone(m.counters),
		Alarms:    slices.Clone(m.alarms),
		Rings:     m.lookAtRings(),
		Preempted: slices.Clone(m.preempted),
	}
}

func (m *Model) lookAtTasks() []api.TaskLook {
	var l []api.TaskLook
	for id, t := range m.tasks {
		l = append(l, api.TaskLook{
			State:    t.state,
			Priority: m.priority(id),
			Active:   t.active,
			Set:      t.set,
			Waits:    t.waits,
			Held:     slices.Clone(t.held),
			Internal: t.internal,
		})
	}
	return l
}

func (m *Model) lookAtFrames() []api.Frame {
	var l []api.Frame
	for _, c := range m.frames {
		l = append(l, c.frame)
	}
	return l
}

func (m *Model) lookAtRequests() []int {
	var l []int
	for isr, is := range m.requested {
		if is {
			l = append(l, isr)
		}
	}
	return l
}

func (m *Model) lookAtRings() [][]int {
	var l [][]int
	for _, p := range m.priorities {
		l = append(l, slices.Clone(m.rings[p]))
	}
	return l
}
