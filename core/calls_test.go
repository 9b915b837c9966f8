package core_test

import (
	"testing"

	"tappet/api"
	"tappet/core"
)

// P20.2: numbers of no task.
func TestActivateNoTask(t *testing.T) {
	p := newPair(t, ordinary())
	p.activate(t, 0)
	for _, n := range append([]int{7, 8, 255}, beyond...) {
		is(t, "Activate", p.c.Activate(n), api.EID)
	}
	p.stands(t)
}

// P20.2: an activation more each, at the tail of the task's ring, up to its limit; in every state.
func TestActivate(t *testing.T) {
	c := made(t, ordinary())
	activates(t, c, 0)
	stateOf(t, c, 0, api.Ready)
	ringIs(t, c, 4, 0)
	activates(t, c, 3, 0, 0, 3)
	is(t, "Activate", c.Activate(0), api.ELimit)
	is(t, "Activate", c.Activate(3), api.ELimit)
	ringIs(t, c, 4, 0, 3, 0, 0, 3)
	if l := c.Look(); l.Tasks[0].Active != 3 || l.Tasks[3].Active != 2 {
		t.Error("Active:", l)
	}
	runs(t, c, 0)
	is(t, "Activate of the running one", c.Activate(0), api.ELimit)
	c.Terminate()
	is(t, "Activate of one that leaves", c.Activate(0), api.ELimit)
	carries(t, c, 0)
	activates(t, c, 0)
	ringIs(t, c, 4, 3, 0, 0, 3, 0)
}

// P20.2: an extended task is started once at a time, also while it waits; its events are cleared when it is.
func TestActivateExtended(t *testing.T) {
	c := made(t, ordinary())
	activates(t, c, 1)
	is(t, "SetEvent", c.SetEvent(1, 2), api.EOK)
	is(t, "Activate", c.Activate(1), api.ELimit)
	runs(t, c, 1)
	is(t, "Activate", c.Activate(1), api.ELimit)
	eventsOf(t, c, 1, 2, api.EOK)
	is(t, "WaitEvent", c.WaitEvent(1), api.EOK)
	carries(t, c, 1)
	is(t, "Activate", c.Activate(1), api.ELimit)
	is(t, "SetEvent", c.SetEvent(1, 1), api.EOK)
	runs(t, c, 1)
	is(t, "Terminate", c.Terminate(), api.EOK)
	carries(t, c, 1)
	if l := c.Look(); l.Tasks[1].State != api.Suspended || l.Tasks[1].Set != 3 {
		t.Error("events are cleared by the start, not by the end:", l.Tasks[1])
	}
	activates(t, c, 1)
	eventsOf(t, c, 1, 0, api.EOK)
}

// ofTheRunning are all calls that the running task makes.
func ofTheRunning(c *core.Core) map[string]api.Status {
	return map[string]api.Status{
		"Terminate": c.Terminate(), "Chain": c.Chain(0), "Chain of no task": c.Chain(-1), "Schedule": c.Schedule(), "Abort": c.Abort(),
		"ClearEvent": c.ClearEvent(1), "WaitEvent": c.WaitEvent(1),
	}
}

// P20.3: nobody runs.
func TestNobodyRuns(t *testing.T) {
	p := newPair(t, ordinary())
	for range 2 {
		for what, s := range ofTheRunning(p.c) {
			is(t, what, s, api.ECallLevel)
		}
		p.stands(t)
		p.activate(t, 1)
		p.activate(t, 0)
	}
}

// P20.3, P20.8: the running task leaves, in each way; nothing is changed by what it calls, whatever else is wrong with that.
func TestTheRunningOneLeaves(t *testing.T) {
	for how, leave := range map[api.LeaveKind]func(p *pair){
		api.LeaveEnd:     func(p *pair) { p.terminate(t) },
		api.LeaveAgain:   func(p *pair) { p.chain(t, 5) },
		api.LeaveWait:    func(p *pair) { p.waitEvent(t, 2) },
		api.LeavePreempt: func(p *pair) { p.preempt(t) },
		api.LeaveYield:   func(p *pair) { p.schedule(t) },
	} {
		for _, holds := range []bool{false, true} {
			p := newPair(t, ordinary())
			p.activate(t, 5)
			p.best(t)
			p.activate(t, 4)
			leave(p)
			leaves(t, p.c, how)
			if holds {
				p.get(t, task(5), 0)
			}
			for what, s := range ofTheRunning(p.c) {
				is(t, what, s, api.ECallLevel)
			}
			if e := p.c.Preempt(); e != api.ErrState {
				t.Error("Preempt:", e)
			}
			due(t, p.c, false)
			runsNot(t, p.c, api.ErrOne)
			stateOf(t, p.c, 5, api.Running)
			p.stands(t)
			p.carry(t)
			p.stands(t)
		}
	}
}

// P20.3: who holds a resource does not end, nor yield, nor wait; its internal one does not count.
func TestHolding(t *testing.T) {
	p := newPair(t, ordinary())
	p.activate(t, 5)
	p.best(t)
	p.activate(t, 4)
	p.get(t, task(5), 0)
	for what, s := range map[string]api.Status{
		"Terminate": p.c.Terminate(), "Chain": p.c.Chain(0), "Chain of itself": p.c.Chain(5), "Chain of one at its limit": p.c.Chain(4),
		"Schedule": p.c.Schedule(), "WaitEvent": p.c.WaitEvent(2),
	} {
		is(t, what, s, api.EResource)
	}
	is(t, "Chain of no task", p.c.Chain(7), api.EID)
	p.stands(t)
	is(t, "WaitEvent of what is set", p.c.SetEvent(5, 2), api.EOK)
	is(t, "WaitEvent of what is set", p.c.WaitEvent(2), api.EResource)
	leaves(t, p.c, api.LeaveNone)
	is(t, "Release", p.c.Release(task(5), 0), api.EOK)
	if !p.c.Look().Tasks[5].Internal {
		t.Error("it has its internal resource no more")
	}
	is(t, "Terminate", p.c.Terminate(), api.EOK)
}

// P20.3: what another context holds does not count.
func TestOthersHold(t *testing.T) {
	c := made(t, ordinary())
	activates(t, c, 1)
	runs(t, c, 1)
	is(t, "Get", c.Get(task(4), 4), api.EOK)
	is(t, "Get of an ISR of the same number", c.Get(isr(0), 2), api.EOK)
	is(t, "Terminate", c.Terminate(), api.EOK)
	leaves(t, c, api.LeaveEnd)
	carries(t, c, 1)
	activates(t, c, 0)
	runs(t, c, 0)
	is(t, "Schedule", c.Schedule(), api.EOK)
	leaves(t, c, api.LeaveNone)
	is(t, "Chain", c.Chain(0), api.EOK)
}

// P20.3: Chain: no such task; one at its limit; another one; itself, at its limit, too.
func TestChain(t *testing.T) {
	p := newPair(t, ordinary())
	for range 3 {
		p.activate(t, 0)
	}
	p.activate(t, 1)
	p.best(t)
	for _, n := range append([]int{7}, beyond...) {
		is(t, "Chain", p.c.Chain(n), api.EID)
	}
	is(t, "Chain", p.c.Chain(0), api.ELimit)
	p.stands(t)
	leaves(t, p.c, api.LeaveNone)
	p.chain(t, 2)
	leaves(t, p.c, api.LeaveEnd)
	stateOf(t, p.c, 2, api.Ready)
	ringIs(t, p.c, 3, 2)
	p.carry(t)
	stateOf(t, p.c, 1, api.Suspended)
	p.best(t)
	p.terminate(t)
	p.carry(t)
	p.best(t)
	stateOf(t, p.c, 0, api.Running)
	p.chain(t, 0)
	leaves(t, p.c, api.LeaveAgain)
	ringIs(t, p.c, 4, 0, 0)
	p.carry(t)
	ringIs(t, p.c, 4, 0, 0, 0)
	p.stands(t)
}

// P20.3: a chained extended task begins without events.
func TestChainExtended(t *testing.T) {
	c := made(t, ordinary())
	activates(t, c, 1, 0)
	is(t, "SetEvent", c.SetEvent(1, 3), api.EOK)
	runs(t, c, 1)
	is(t, "Terminate", c.Terminate(), api.EOK)
	carries(t, c, 1)
	runs(t, c, 0)
	is(t, "Chain", c.Chain(1), api.EOK)
	eventsOf(t, c, 1, 0, api.EOK)
}

// P20.3: Schedule looks at the base priority, and at rings above it alone: not at its own, nor at its current priority.
func TestSchedule(t *testing.T) {
	c := made(t, ordinary())
	activates(t, c, 5)
	runs(t, c, 5)
	activates(t, c, 2, 0, 3)
	is(t, "Schedule", c.Schedule(), api.EOK)
	leaves(t, c, api.LeaveNone)
	activates(t, c, 1) // priority 3: above 2, below 4, the ceiling of what task 5 has
	due(t, c, false)
	is(t, "Schedule", c.Schedule(), api.EOK)
	leaves(t, c, api.LeaveYield)
	carries(t, c, 5)
	if l := c.Look().Tasks[5]; l.Internal || l.Priority != 2 || l.State != api.Ready {
		t.Error("yielded:", l)
	}
	preemptedAre(t, c, 5)
	runs(t, c, 1)
	is(t, "Terminate", c.Terminate(), api.EOK)
	carries(t, c, 1)
	runs(t, c, 5)
	if l := c.Look().Tasks[5]; !l.Internal || l.Priority != 4 {
		t.Error("resumed:", l)
	}
}

// P20.3: a preempted task does not count for Schedule, however great its priority is.
func TestScheduleAndThePreempted(t *testing.T) {
	p := newPair(t, ordinary())
	p.activate(t, 0)
	p.best(t)
	p.activate(t, 2)
	p.preempt(t)
	p.carry(t)
	p.best(t)
	p.get(t, task(0), 2)
	p.schedule(t)
	leaves(t, p.c, api.LeaveNone)
	p.stands(t)
}

// P20.3: Abort gives all back, and ends the task; of one that holds nothing, too.
func TestAbort(t *testing.T) {
	c := made(t, ordinary())
	activates(t, c, 0, 0)
	runs(t, c, 0)
	for _, r := range []int{4, 0, 2} {
		is(t, "Get", c.Get(task(0), r), api.EOK)
	}
	is(t, "Get", c.Get(task(3), 3), api.EOK)
	is(t, "Abort", c.Abort(), api.EOK)
	leaves(t, c, api.LeaveEnd)
	if h := c.Held(task(0)); len(h) != 0 || c.Priority(task(0)) != 1 {
		t.Error("it holds", h)
	}
	if h := c.Held(task(3)); len(h) != 1 {
		t.Error("task 3 holds", h)
	}
	is(t, "Get of what was given back", c.Get(isr(0), 2), api.EOK)
	stateOf(t, c, 0, api.Running)
	carries(t, c, 0)
	stateOf(t, c, 0, api.Ready)
	runs(t, c, 0)
	is(t, "Abort", c.Abort(), api.EOK)
	carries(t, c, 0)
	stateOf(t, c, 0, api.Suspended)
}
