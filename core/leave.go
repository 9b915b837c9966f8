package core

import "tappet/api"

// Leaving tells how the running task leaves (P20.6).
func (c *Core) Leaving() api.LeaveKind {
	if c.none() {
		return api.LeaveNone
	}
	return c.leaving
}

// outcomes are what each leaving leads to, of the task that runs (P20.6).
func outcomes() map[api.LeaveKind]func(c *Core, task int) {
	return map[api.LeaveKind]func(c *Core, task int){
		api.LeaveEnd:     (*Core).end,
		api.LeaveAgain:   (*Core).again,
		api.LeaveWait:    (*Core).wait,
		api.LeavePreempt: (*Core).setAside,
		api.LeaveYield:   (*Core).yield,
	}
}

// Carry carries a leaving out (P20.6).
func (c *Core) Carry() (int, api.Errno) {
	if c.none() {
		return nobody, api.ErrNil
	}
	carry, leaves := outcomes()[c.leaving]
	if !leaves {
		return nobody, api.ErrLeave
	}
	task := c.states.Running()
	carry(c, task)
	c.leaving, c.asked = api.LeaveNone, 0
	return task, api.OK
}

func (c *Core) end(task int) {
	c.Leave(task)
	c.states.End()
}

func (c *Core) again(task int) {
	c.Leave(task)
	c.states.Again()
	c.events.Fresh(task) // of a basic one there is nothing to clear
	c.join(task)
}

func (c *Core) wait(task int) {
	c.Leave(task)
	c.states.Wait()
	if waits, _ := c.events.Wait(task, c.asked); !waits {
		c.states.Release(task)
		c.join(task)
	}
}

// setAside puts the task on the stack of the preempted. There is room: base priorities rise there from the bottom, whoever calls what, since a ring's first is taken only if its priority is above the top's current one, and there are as many places as priorities.
func (c *Core) setAside(task int) {
	c.states.Preempt()
	c.preempted.Push(task)
}

func (c *Core) yield(task int) {
	c.Leave(task)
	c.setAside(task)
}

// Waiting tells whether somebody is ready, or preempted (P20.7).
func (c *Core) Waiting() bool {
	return !c.none() && (c.queue.Bits() != 0 || c.preempted.Len() > 0)
}

// Run makes the best run (P20.7).
func (c *Core) Run() (int, api.Errno) {
	switch {
	case c.none():
		return nobody, api.ErrNil
	case c.states.Running() != nobody:
		return nobody, api.ErrOne
	case !c.Waiting():
		return nobody, api.ErrState
	}
	task := c.takeBest()
	c.states.Start(task)
	c.Enter(task)
	return task, api.OK
}

// takeBest takes the task that is to run off the stack of the preempted, or off its ring; there is one.
func (c *Core) takeBest() int {
	top, some := c.preempted.Top()
	if some && !c.isReadyAbove(c.Priority(ownerOf(top))) {
		c.preempted.Pop()
		return top
	}
	first, _ := c.queue.Take()
	return first.ID
}

// Due tells whether the running task is to be preempted (P20.8).
func (c *Core) Due() bool {
	me, s := c.caller()
	return s == api.EOK && c.rows[me.ID].full && c.isReadyAbove(c.Priority(me))
}

// Preempt makes the running task leave (P20.8).
func (c *Core) Preempt() api.Errno {
	if c.none() {
		return api.ErrNil
	}
	if _, s := c.caller(); s != api.EOK {
		return api.ErrState
	}
	c.leaving = api.LeavePreempt
	return api.OK
}
