package core_test

import (
	"testing"

	"tappet/api"
)

// The chapter's first example, and its second, which goes on from there.
func TestExamples1And2(t *testing.T) {
	c := made(t, examples())
	activates(t, c, 0, 0)
	is(t, "Activate", c.Activate(0), api.ELimit)
	runs(t, c, 0)
	activates(t, c, 1)
	due(t, c, true)
	if e := c.Preempt(); e != api.OK {
		t.Fatal("Preempt:", e)
	}
	carries(t, c, 0)
	runs(t, c, 1)

	is(t, "WaitEvent", c.WaitEvent(1), api.EOK)
	carries(t, c, 1)
	runs(t, c, 0)
	is(t, "SetEvent", c.SetEvent(1, 1), api.EOK)
	due(t, c, true)
	is(t, "Terminate", c.Terminate(), api.EOK)
	carries(t, c, 0)
	runs(t, c, 1)
}

// Its third one.
func TestExample3(t *testing.T) {
	c := made(t, examples())
	activates(t, c, 2)
	runs(t, c, 2)
	activates(t, c, 1)
	due(t, c, false)
	is(t, "Schedule", c.Schedule(), api.EOK)
	leaves(t, c, api.LeaveYield)
	is(t, "Chain", c.Chain(2), api.ECallLevel)
}
