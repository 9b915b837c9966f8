package core

import "tappet/api"

// ownerOf is a task as one who holds resources.
func ownerOf(task int) api.Owner { return api.Owner{ID: task} }

// caller is the running task; one that leaves calls nothing any more (P20.3).
func (c *Core) caller() (api.Owner, api.Status) {
	if c.none() {
		return api.Owner{}, api.EID
	}
	running := c.states.Running()
	if running == nobody || c.leaving != api.LeaveNone {
		return api.Owner{}, api.ECallLevel
	}
	return ownerOf(running), api.EOK
}

func (c *Core) holds(o api.Owner) bool { return len(c.Held(o)) > 0 }

// freeCaller is the caller, if it holds nothing.
func (c *Core) freeCaller() (api.Owner, api.Status) {
	me, s := c.caller()
	if s != api.EOK {
		return api.Owner{}, s
	}
	if c.holds(me) {
		return api.Owner{}, api.EResource
	}
	return me, api.EOK
}

// Activate activates a task (P20.2).
func (c *Core) Activate(task int) api.Status {
	if c.none() {
		return api.EID
	}
	suspended, s := c.states.Activate(task)
	if s != api.EOK {
		return s
	}
	if suspended {
		c.events.Fresh(task) // of a basic one there is nothing to clear
	}
	c.join(task)
	return api.EOK
}

// Terminate ends the running task (P20.3).
func (c *Core) Terminate() api.Status {
	_, s := c.freeCaller()
	if s == api.EOK {
		c.leaving = api.LeaveEnd
	}
	return s
}

// Chain ends the running task and activates another one (P20.3).
func (c *Core) Chain(task int) api.Status {
	me, s := c.caller()
	if s != api.EOK {
		return s
	}
	if _, s := c.State(task); s != api.EOK {
		return s
	}
	if c.holds(me) {
		return api.EResource
	}
	if ownerOf(task) == me {
		c.leaving = api.LeaveAgain
		return api.EOK
	}
	if s := c.Activate(task); s != api.EOK {
		return s
	}
	c.leaving = api.LeaveEnd
	return api.EOK
}

// Schedule lets a ready task of greater priority run (P20.3).
func (c *Core) Schedule() api.Status {
	me, s := c.freeCaller()
	if s == api.EOK && c.isReadyAbove(c.rows[me.ID].priority) {
		c.leaving = api.LeaveYield
	}
	return s
}

// Abort ends the running task, whatever it holds (P20.3).
func (c *Core) Abort() api.Status {
	me, s := c.caller()
	if s != api.EOK {
		return s
	}
	c.Drop(me)
	c.leaving = api.LeaveEnd
	return api.EOK
}

// hasEvents tells whether a task's events can be set and told now (P20.4).
func (c *Core) hasEvents(task int) api.Status {
	state, s := c.State(task)
	switch {
	case s != api.EOK:
		return s
	case !c.rows[task].extended:
		return api.EAccess
	case state == api.Suspended:
		return api.EState
	}
	return api.EOK
}

// SetEvent sets events of a task (P20.4).
func (c *Core) SetEvent(task int, mask uint32) api.Status {
	if s := c.hasEvents(task); s != api.EOK {
		return s
	}
	if woken, _ := c.events.Set(task, mask); woken {
		c.states.Release(task)
		c.join(task)
	}
	return api.EOK
}

// ClearEvent clears events of the running task (P20.4).
func (c *Core) ClearEvent(mask uint32) api.Status {
	me, s := c.caller()
	if s != api.EOK {
		return s
	}
	return c.events.Clear(me.ID, mask)
}

// GetEvent tells which events of a task are set (P20.4).
func (c *Core) GetEvent(task int) (uint32, api.Status) {
	if s := c.hasEvents(task); s != api.EOK {
		return 0, s
	}
	return c.events.Get(task)
}

// WaitEvent makes the running task wait (P20.4).
func (c *Core) WaitEvent(mask uint32) api.Status {
	me, s := c.caller()
	if s != api.EOK {
		return s
	}
	set, s := c.events.Get(me.ID)
	if s != api.EOK {
		return s
	}
	if c.holds(me) {
		return api.EResource
	}
	if set&mask == 0 {
		c.leaving, c.asked = api.LeaveWait, mask
	}
	return api.EOK
}
