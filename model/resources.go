package model

import (
	"slices"

	"tappet/api"
)

// holder is who calls for resources: a task or an ISR.
type holder struct {
	isTask bool
	base   int
	own    []int
	held   *[]int
}

// caller is the context that runs: at the levels that let resources be taken it is one of the two.
func (m *Model) caller() holder {
	f := m.top().frame
	if f.Kind == api.FIsr {
		isr := m.c.Isrs[f.ID]
		return holder{base: isr.Priority, own: isr.Resources, held: &m.held[f.ID]}
	}
	t := m.c.Tasks[f.ID]
	return holder{isTask: true, base: t.Priority, own: t.Resources, held: &m.tasks[f.ID].held}
}

// isOwn: a resource is one of the holder's own; RES_SCHEDULER, behind all others, is every task's, and no ISR's.
func (m *Model) isOwn(h holder, resource int) bool {
	if resource == len(m.c.Resources) {
		return h.isTask
	}
	return slices.Contains(h.own, resource)
}

// isHeld: somebody holds a resource.
func (m *Model) isHeld(resource int) bool {
	for _, t := range m.tasks {
		if slices.Contains(t.held, resource) {
			return true
		}
	}
	for _, held := range m.held {
		if slices.Contains(held, resource) {
			return true
		}
	}
	return false
}

// getResource is M10.
func (m *Model) getResource(s api.Step) api.Answer {
	if !m.isResource(s.A) {
		return refused(api.EID)
	}
	r, h := int(s.A), m.caller()
	if !m.isOwn(h, r) || m.isHeld(r) || h.base > m.ceilings[r] {
		return refused(api.EAccess)
	}
	*h.held = append(*h.held, r)
	return done()
}

// releaseResource is M10.
func (m *Model) releaseResource(s api.Step) api.Answer {
	if !m.isResource(s.A) {
		return refused(api.EID)
	}
	held := m.caller().held
	last := len(*held) - 1
	if last < 0 || (*held)[last] != int(s.A) {
		return refused(api.ENoFunc)
	}
	*held = (*held)[:last]
	return done()
}
