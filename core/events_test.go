package core_test

import (
	"testing"

	"tappet/api"
)

// P20.4: no such task; a basic one, in whatever state; a suspended one.
func TestEventsRefused(t *testing.T) {
	p := newPair(t, ordinary())
	for _, n := range append([]int{7}, beyond...) {
		is(t, "SetEvent", p.c.SetEvent(n, 1), api.EID)
		eventsOf(t, p.c, n, 0, api.EID)
	}
	for range 2 {
		for _, n := range []int{0, 2, 3, 6} {
			is(t, "SetEvent", p.c.SetEvent(n, 1), api.EAccess)
			eventsOf(t, p.c, n, 0, api.EAccess)
		}
		for _, n := range []int{1, 4, 5} {
			is(t, "SetEvent", p.c.SetEvent(n, 1), api.EState)
			eventsOf(t, p.c, n, 0, api.EState)
		}
		p.stands(t)
		p.activate(t, 0)
		p.activate(t, 2)
		p.best(t)
	}
	is(t, "ClearEvent", p.c.ClearEvent(1), api.EAccess)
	is(t, "WaitEvent", p.c.WaitEvent(1), api.EAccess)
	p.get(t, task(2), 4)
	is(t, "WaitEvent of a basic one that holds", p.c.WaitEvent(1), api.EAccess)
	p.stands(t)
}

// P20.4: events are set and told of a ready, a running and a waiting task; whatever bits they are.
func TestSetAndClear(t *testing.T) {
	c := made(t, ordinary())
	activates(t, c, 4)
	is(t, "SetEvent", c.SetEvent(4, 1<<31), api.EOK)
	eventsOf(t, c, 4, 1<<31, api.EOK)
	runs(t, c, 4)
	is(t, "SetEvent", c.SetEvent(4, 1<<30|5), api.EOK)
	is(t, "SetEvent", c.SetEvent(4, 0), api.EOK)
	eventsOf(t, c, 4, 1<<31|1<<30|5, api.EOK)
	is(t, "ClearEvent", c.ClearEvent(1<<31|4|2), api.EOK)
	eventsOf(t, c, 4, 1<<30|1, api.EOK)
	is(t, "ClearEvent", c.ClearEvent(0), api.EOK)
	is(t, "WaitEvent", c.WaitEvent(2), api.EOK)
	carries(t, c, 4)
	is(t, "SetEvent of what it does not wait for", c.SetEvent(4, 4), api.EOK)
	stateOf(t, c, 4, api.Waiting)
	eventsOf(t, c, 4, 1<<30|5, api.EOK)
	is(t, "SetEvent of what it waits for", c.SetEvent(4, 3), api.EOK)
	stateOf(t, c, 4, api.Ready)
	eventsOf(t, c, 4, 1<<30|7, api.EOK)
	if l := c.Look().Tasks[4]; l.Waits != 0 {
		t.Error("it waits for", l.Waits)
	}
	runs(t, c, 4)
	is(t, "ClearEvent", c.ClearEvent(1<<32-1), api.EOK)
	eventsOf(t, c, 4, 0, api.EOK)
}

// P20.4: the caller's own events are cleared, nobody else's.
func TestClearIsTheRunningOnes(t *testing.T) {
	c := made(t, ordinary())
	activates(t, c, 1, 5)
	is(t, "SetEvent", c.SetEvent(1, 3), api.EOK)
	is(t, "SetEvent", c.SetEvent(5, 3), api.EOK)
	runs(t, c, 1)
	is(t, "ClearEvent", c.ClearEvent(1), api.EOK)
	eventsOf(t, c, 1, 2, api.EOK)
	eventsOf(t, c, 5, 3, api.EOK)
}

// P20.4: one of the events is set: nothing happens; none is: it leaves, and waits for them.
func TestWait(t *testing.T) {
	c := made(t, ordinary())
	activates(t, c, 1)
	runs(t, c, 1)
	is(t, "SetEvent", c.SetEvent(1, 1), api.EOK)
	is(t, "WaitEvent", c.WaitEvent(3), api.EOK)
	leaves(t, c, api.LeaveNone)
	eventsOf(t, c, 1, 1, api.EOK)
	if l := c.Look().Tasks[1]; l.Waits != 0 {
		t.Error("it waits for", l.Waits)
	}
	is(t, "WaitEvent", c.WaitEvent(6), api.EOK)
	leaves(t, c, api.LeaveWait)
	stateOf(t, c, 1, api.Running)
	if l := c.Look().Tasks[1]; l.Waits != 6 || l.Set != 1 {
		t.Error("it leaves to wait:", l)
	}
	carries(t, c, 1)
	stateOf(t, c, 1, api.Waiting)
	if l := c.Look().Tasks[1]; l.Waits != 6 || l.Active != 1 {
		t.Error("it waits:", l)
	}
	runsNot(t, c, api.ErrState)
}

// P20.4: a wait for no event at all is ended by none.
func TestWaitForNothing(t *testing.T) {
	c := made(t, ordinary())
	activates(t, c, 1)
	is(t, "SetEvent", c.SetEvent(1, 3), api.EOK)
	runs(t, c, 1)
	is(t, "WaitEvent", c.WaitEvent(0), api.EOK)
	leaves(t, c, api.LeaveWait)
	carries(t, c, 1)
	is(t, "SetEvent", c.SetEvent(1, 1<<32-1), api.EOK)
	stateOf(t, c, 1, api.Waiting)
	if c.Waiting() {
		t.Error("somebody is ready")
	}
	c.Reset()
	stateOf(t, c, 1, api.Suspended)
}

// P20.4: who is woken joins the tail of its ring, behind those that are there.
func TestWokenJoinsTheTail(t *testing.T) {
	c := made(t, ordinary())
	activates(t, c, 5)
	runs(t, c, 5)
	is(t, "WaitEvent", c.WaitEvent(2), api.EOK)
	carries(t, c, 5)
	activates(t, c, 2)
	is(t, "SetEvent", c.SetEvent(5, 2), api.EOK)
	activates(t, c, 2)
	ringIs(t, c, 3, 2, 5, 2)
	is(t, "SetEvent of one that is ready already", c.SetEvent(5, 2), api.EOK)
	ringIs(t, c, 3, 2, 5, 2)
}

// P20.4, P20.6: an event that is set while the task leaves to wait: it runs and has its Waits until that is carried out; then it is ready.
func TestSetWhileItLeaves(t *testing.T) {
	c := made(t, ordinary())
	activates(t, c, 5)
	runs(t, c, 5)
	activates(t, c, 2)
	is(t, "WaitEvent", c.WaitEvent(6), api.EOK)
	is(t, "SetEvent", c.SetEvent(5, 4), api.EOK)
	leaves(t, c, api.LeaveWait)
	stateOf(t, c, 5, api.Running)
	ringIs(t, c, 3, 2)
	if l := c.Look().Tasks[5]; l.Waits != 6 || l.Set != 4 || !l.Internal {
		t.Error("it still runs:", l)
	}
	carries(t, c, 5)
	stateOf(t, c, 5, api.Ready)
	ringIs(t, c, 3, 2, 5)
	if l := c.Look().Tasks[5]; l.Waits != 0 || l.Set != 4 || l.Active != 1 || l.Internal {
		t.Error("it is ready:", l)
	}
	runs(t, c, 2)
	is(t, "Terminate", c.Terminate(), api.EOK)
	carries(t, c, 2)
	runs(t, c, 5)
	is(t, "WaitEvent", c.WaitEvent(2), api.EOK)
	is(t, "SetEvent of another", c.SetEvent(5, 4), api.EOK)
	carries(t, c, 5)
	stateOf(t, c, 5, api.Waiting)
}

// P20.4: what one task waits for is nothing to another one.
func TestTwoWait(t *testing.T) {
	c := made(t, ordinary())
	for _, n := range []int{1, 5, 4} {
		activates(t, c, n)
		runs(t, c, n)
		is(t, "WaitEvent", c.WaitEvent(2), api.EOK)
		carries(t, c, n)
	}
	is(t, "SetEvent", c.SetEvent(5, 2), api.EOK)
	stateOf(t, c, 1, api.Waiting)
	stateOf(t, c, 4, api.Waiting)
	runs(t, c, 5)
	if l := c.Look(); l.Tasks[1].Waits != 2 || l.Tasks[5].Waits != 0 || l.Tasks[1].Set != 0 {
		t.Error(l)
	}
}
