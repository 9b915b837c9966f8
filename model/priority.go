package model

import "tappet/api"

// raised is the greatest of a base priority and the ceilings of what is held.
func (m *Model) raised(base int, held []int) int {
	for _, r := range held {
		base = max(base, m.ceilings[r])
	}
	return base
}

// priority is the current one of a task.
func (m *Model) priority(id int) int {
	p := m.raised(m.c.Tasks[id].Priority, m.tasks[id].held)
	if r, has := m.internal(id); has && m.tasks[id].internal {
		p = max(p, m.ceilings[r])
	}
	return p
}

// topPriority is that of the context on top, a task or an ISR; -1: there is none.
func (m *Model) topPriority() int {
	switch f := m.top().frame; f.Kind {
	case api.FTask:
		return m.priority(f.ID)
	case api.FIsr:
		return m.raised(m.c.Isrs[f.ID].Priority, m.held[f.ID])
	}
	return -1
}
