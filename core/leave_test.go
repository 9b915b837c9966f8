package core_test

import (
	"testing"

	"tappet/api"
)

// P20.6: nobody leaves: while nobody runs, and while somebody does.
func TestNobodyLeaves(t *testing.T) {
	p := newPair(t, ordinary())
	for range 3 {
		if n, e := p.c.Carry(); n != -1 || e != api.ErrLeave {
			t.Error("Carry:", n, e)
		}
		leaves(t, p.c, api.LeaveNone)
		p.stands(t)
		p.activate(t, 0)
		p.best(t)
	}
}

// P20.6: an end: of the last activation, and of one of several, whose number stands in the ring already.
func TestEnd(t *testing.T) {
	c := made(t, ordinary())
	activates(t, c, 3, 0, 3)
	runs(t, c, 3)
	if l := c.Look().Tasks[3]; !l.Internal || l.Priority != 4 || l.Active != 2 {
		t.Error("it runs:", l)
	}
	is(t, "Terminate", c.Terminate(), api.EOK)
	if l := c.Look().Tasks[3]; !l.Internal || l.Active != 2 || l.State != api.Running {
		t.Error("it leaves:", l)
	}
	carries(t, c, 3)
	if l := c.Look().Tasks[3]; l.Internal || l.Priority != 1 || l.Active != 1 || l.State != api.Ready {
		t.Error("it is ready:", l)
	}
	ringIs(t, c, 4, 0, 3)
	runs(t, c, 0)
	is(t, "Terminate", c.Terminate(), api.EOK)
	carries(t, c, 0)
	runs(t, c, 3)
	is(t, "Terminate", c.Terminate(), api.EOK)
	carries(t, c, 3)
	if l := c.Look().Tasks[3]; l.Internal || l.Active != 0 || l.State != api.Suspended {
		t.Error("it is suspended:", l)
	}
	runsNot(t, c, api.ErrState)
}

// P20.6: it ends and begins anew: behind those that are ready, without events, with as many activations.
func TestAgain(t *testing.T) {
	c := made(t, ordinary())
	activates(t, c, 5)
	runs(t, c, 5)
	is(t, "SetEvent", c.SetEvent(5, 6), api.EOK)
	activates(t, c, 2)
	is(t, "Chain", c.Chain(5), api.EOK)
	leaves(t, c, api.LeaveAgain)
	eventsOf(t, c, 5, 6, api.EOK)
	is(t, "SetEvent", c.SetEvent(5, 1), api.EOK)
	activates(t, c, 2)
	carries(t, c, 5)
	ringIs(t, c, 3, 2, 2, 5)
	if l := c.Look().Tasks[5]; l.Internal || l.Active != 1 || l.State != api.Ready || l.Set != 0 || l.Waits != 0 {
		t.Error("it begins anew:", l)
	}
}

// P20.6: a task that was started once more while it leaves to begin anew has both.
func TestAgainAndActivated(t *testing.T) {
	c := made(t, ordinary())
	activates(t, c, 3)
	runs(t, c, 3)
	is(t, "Chain", c.Chain(3), api.EOK)
	activates(t, c, 3)
	carries(t, c, 3)
	ringIs(t, c, 4, 3, 3)
	if l := c.Look().Tasks[3]; l.Active != 2 || l.State != api.Ready || l.Internal {
		t.Error("it begins anew:", l)
	}
}

// P20.6: a task that ends and was started meanwhile is ready.
func TestEndAndActivated(t *testing.T) {
	c := made(t, ordinary())
	activates(t, c, 0)
	runs(t, c, 0)
	is(t, "Terminate", c.Terminate(), api.EOK)
	activates(t, c, 0)
	ringIs(t, c, 4, 0)
	carries(t, c, 0)
	if l := c.Look().Tasks[0]; l.Active != 1 || l.State != api.Ready {
		t.Error("it is ready:", l)
	}
	ringIs(t, c, 4, 0)
}

// P20.6: its internal resource is kept by one that is preempted, and released by one that waits.
func TestInternal(t *testing.T) {
	c := made(t, ordinary())
	activates(t, c, 3)
	if c.Look().Tasks[3].Internal {
		t.Error("a ready one that has not begun has it")
	}
	runs(t, c, 3)
	activates(t, c, 4)
	preempts(t, c, 3, 4)
	if l := c.Look().Tasks[3]; !l.Internal || l.Priority != 4 || l.State != api.Ready {
		t.Error("it is preempted:", l)
	}
	activates(t, c, 6) // priority 4 is not above 4: the preempted one goes on
	is(t, "Terminate", c.Terminate(), api.EOK)
	carries(t, c, 4)
	runs(t, c, 3)
	is(t, "Terminate", c.Terminate(), api.EOK)
	carries(t, c, 3)
	runs(t, c, 6)
	is(t, "Terminate", c.Terminate(), api.EOK)
	carries(t, c, 6)
	activates(t, c, 5)
	runs(t, c, 5)
	is(t, "WaitEvent", c.WaitEvent(2), api.EOK)
	if l := c.Look().Tasks[5]; !l.Internal {
		t.Error("it leaves to wait:", l)
	}
	carries(t, c, 5)
	if l := c.Look().Tasks[5]; l.Internal || l.Priority != 2 {
		t.Error("it waits:", l)
	}
}

// P20.6: what a task holds stays its own while it is preempted.
func TestPreemptedHolds(t *testing.T) {
	c := made(t, ordinary())
	activates(t, c, 0)
	runs(t, c, 0)
	is(t, "Get", c.Get(task(0), 0), api.EOK)
	activates(t, c, 4)
	preempts(t, c, 0, 4)
	if l := c.Look().Tasks[0]; l.Priority != 3 || len(l.Held) != 1 {
		t.Error("it is preempted:", l)
	}
	activates(t, c, 1) // priority 3 is not above the ceiling
	is(t, "Terminate", c.Terminate(), api.EOK)
	carries(t, c, 4)
	runs(t, c, 0)
	due(t, c, false)
	is(t, "Release", c.Release(task(0), 0), api.EOK)
	due(t, c, true)
}

// P20.7: Waiting: a ring is not empty, or somebody is preempted; who runs or waits does not count.
func TestWaiting(t *testing.T) {
	c := made(t, ordinary())
	for _, step := range []struct {
		do   func()
		want bool
	}{
		{func() { activates(t, c, 1) }, true},
		{func() { runs(t, c, 1) }, false},
		{func() { c.Preempt() }, false},
		{func() { carries(t, c, 1) }, true},
		{func() { runs(t, c, 1) }, false},
		{func() { c.WaitEvent(1) }, false},
		{func() { carries(t, c, 1) }, false},
		{func() { c.SetEvent(1, 1) }, true},
		{func() { runs(t, c, 1) }, false},
		{func() { c.Terminate() }, false},
		{func() { carries(t, c, 1) }, false},
	} {
		step.do()
		if w := c.Waiting(); w != step.want {
			t.Fatal("Waiting:", w, c.Look())
		}
	}
}

// P20.7: a task runs: that is said ahead of whether somebody is ready.
func TestRunRefused(t *testing.T) {
	p := newPair(t, ordinary())
	runsNot(t, p.c, api.ErrState)
	p.activate(t, 0)
	p.best(t)
	runsNot(t, p.c, api.ErrOne)
	p.stands(t)
	p.activate(t, 4)
	runsNot(t, p.c, api.ErrOne)
	p.terminate(t)
	runsNot(t, p.c, api.ErrOne)
	p.stands(t)
}

// P20.7: the greatest ring's first, those of one ring as they came.
func TestRunOrder(t *testing.T) {
	c := made(t, ordinary())
	activates(t, c, 3, 0, 2, 4, 0, 5, 6, 3, 1, 2)
	for _, n := range []int{4, 6, 1, 2, 5, 2, 3, 0, 0, 3} {
		runs(t, c, n)
		is(t, "Terminate", c.Terminate(), api.EOK)
		carries(t, c, n)
	}
	runsNot(t, c, api.ErrState)
}

// P20.7: of one that was preempted and a ring of the same priority the preempted one runs; the current priority counts, not the base one.
func TestResumed(t *testing.T) {
	c := made(t, ordinary())
	activates(t, c, 0)
	runs(t, c, 0)
	activates(t, c, 3, 0)
	preempts(t, c, 0, 0)
	is(t, "Get", c.Get(task(0), 0), api.EOK)
	activates(t, c, 2, 1)
	preempts(t, c, 0, 0) // its ceiling is 3, and so is the ring's priority
	activates(t, c, 6)
	preempts(t, c, 0, 6)
	is(t, "Terminate", c.Terminate(), api.EOK)
	carries(t, c, 6)
	runs(t, c, 0)
	is(t, "Release", c.Release(task(0), 0), api.EOK)
	preempts(t, c, 0, 1)
	is(t, "Terminate", c.Terminate(), api.EOK)
	carries(t, c, 1)
	runs(t, c, 2)
}

// P20.7: the top of the preempted is asked alone, and taken off first.
func TestResumedFromTheTop(t *testing.T) {
	c := made(t, ordinary())
	activates(t, c, 0)
	runs(t, c, 0)
	activates(t, c, 2)
	preempts(t, c, 0, 2)
	activates(t, c, 1)
	preempts(t, c, 2, 1)
	activates(t, c, 4)
	preempts(t, c, 1, 4)
	preemptedAre(t, c, 0, 2, 1)
	is(t, "Get", c.Get(task(0), 2), api.EOK) // it lies at the bottom, with the priority 70
	activates(t, c, 6)
	is(t, "Terminate", c.Terminate(), api.EOK)
	carries(t, c, 4)
	runs(t, c, 6)
	for _, n := range []int{6, 1, 2} {
		if r := c.Running(); r != n {
			t.Fatal("Running:", r, "not", n)
		}
		is(t, "Terminate", c.Terminate(), api.EOK)
		carries(t, c, n)
		c.Run()
	}
	if r := c.Running(); r != 0 {
		t.Fatal("Running:", r)
	}
	preemptedAre(t, c)
}

// P20.7: who has begun and goes on behind its waiting is taken off its ring like one that starts.
func TestGoesOn(t *testing.T) {
	c := made(t, ordinary())
	activates(t, c, 5)
	runs(t, c, 5)
	is(t, "WaitEvent", c.WaitEvent(4), api.EOK)
	carries(t, c, 5)
	activates(t, c, 2)
	is(t, "SetEvent", c.SetEvent(5, 4), api.EOK)
	runs(t, c, 2)
	is(t, "Terminate", c.Terminate(), api.EOK)
	carries(t, c, 2)
	runs(t, c, 5)
	if l := c.Look().Tasks[5]; !l.Internal || l.Set != 4 || l.Active != 1 {
		t.Error("it goes on:", l)
	}
}

// P20.8: a full task below the ring, by its current priority; one that is not full is never due, nor where the ring is its own.
func TestDue(t *testing.T) {
	c := made(t, ordinary())
	activates(t, c, 0, 0)
	due(t, c, false)
	runs(t, c, 0)
	due(t, c, false)
	activates(t, c, 2)
	due(t, c, true)
	is(t, "Get", c.Get(task(0), 0), api.EOK)
	due(t, c, false)
	activates(t, c, 1)
	due(t, c, false)
	activates(t, c, 6)
	due(t, c, true)
	if e := c.Preempt(); e != api.OK {
		t.Fatal("Preempt:", e)
	}
	due(t, c, false)
	carries(t, c, 0)
	due(t, c, false)
	runs(t, c, 6)
	is(t, "Terminate", c.Terminate(), api.EOK)
	carries(t, c, 6)
	runs(t, c, 0)
	is(t, "Release", c.Release(task(0), 0), api.EOK)
	preempts(t, c, 0, 1)
	is(t, "Terminate", c.Terminate(), api.EOK)
	carries(t, c, 1)
	runs(t, c, 2)
	activates(t, c, 4)
	due(t, c, false)
}

// P20.8: Preempt: nobody runs; and it does not look whether it is due, nor whether the task is full.
func TestPreempt(t *testing.T) {
	p := newPair(t, ordinary())
	if e := p.c.Preempt(); e != api.ErrState {
		t.Error("nobody runs:", e)
	}
	p.activate(t, 2)
	if e := p.c.Preempt(); e != api.ErrState {
		t.Error("nobody runs:", e)
	}
	p.stands(t)
	p.best(t)
	due(t, p.c, false)
	p.preempt(t)
	leaves(t, p.c, api.LeavePreempt)
	p.stands(t)
	p.carry(t)
	preemptedAre(t, p.c, 2)
	stateOf(t, p.c, 2, api.Ready)
	ringIs(t, p.c, 3)
	p.best(t)
	p.stands(t)
}

// P20.8, P20.11: whatever is preempted without need, and whoever gets what meanwhile, all tasks come to their ends.
func TestPreemptedWithoutNeed(t *testing.T) {
	c := made(t, ordinary())
	activates(t, c, 0)
	runs(t, c, 0)
	is(t, "Get", c.Get(task(0), 4), api.EOK)
	activates(t, c, 1, 3)
	preempts(t, c, 0, 0)
	c.Preempt()
	carries(t, c, 0)
	is(t, "Release of a preempted one", c.Release(task(0), 4), api.EOK)
	runs(t, c, 1)
	is(t, "Get of a preempted one", c.Get(task(0), 4), api.EOK)
	preempts(t, c, 1, 1)
	is(t, "Terminate", c.Terminate(), api.EOK)
	carries(t, c, 1)
	runs(t, c, 0)
	is(t, "Terminate", c.Terminate(), api.EResource)
	is(t, "Abort", c.Abort(), api.EOK)
	carries(t, c, 0)
	runs(t, c, 3)
}
