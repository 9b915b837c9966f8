package core

import (
	"slices"

	"tappet/api"
)

// Look tells how it stands (P20.9).
func (c *Core) Look() api.CoreLook {
	if c.none() {
		return api.CoreLook{}
	}
	look := api.CoreLook{Leaving: c.leaving}
	for task := range c.rows {
		look.Tasks = append(look.Tasks, c.lookAt(task))
	}
	for _, priority := range c.rings {
		look.Rings = append(look.Rings, c.queue.Ring(priority))
	}
	for task := range c.preempted.All() {
		look.Preempted = append(look.Preempted, task)
	}
	slices.Reverse(look.Preempted) // the stack tells them from the top on
	return look
}

func (c *Core) lookAt(task int) api.TaskLook {
	me := ownerOf(task)
	state, _ := c.states.State(task)
	set, _ := c.events.Get(task)
	return api.TaskLook{
		State:    state,
		Priority: c.Priority(me),
		Active:   c.states.Active(task),
		Set:      set,
		Waits:    c.waitsFor(task, state),
		Held:     c.Held(me),
		Internal: c.Has(task),
	}
}

// waitsFor is what a task waits for; of one that leaves to wait what it will (P20.9).
func (c *Core) waitsFor(task int, state api.TaskState) uint32 {
	if state == api.Running {
		return c.asked
	}
	return c.events.Waits(task)
}
