package lock_test

import (
	"testing"

	"tappet/api"
)

// The chapter's first example, and its second, which goes on from there.
func TestExamples1And2(t *testing.T) {
	l := made(t, examples())
	gets(t, l, task(0), 1, api.EOK)
	runsAt(t, l, task(0), 1)
	gets(t, l, task(0), 0, api.EOK)
	runsAt(t, l, task(0), 3)
	gets(t, l, task(1), 0, api.EAccess)
	holds(t, l, task(0), 1, 0)
	releases(t, l, task(0), 1, api.ENoFunc)
	releases(t, l, task(0), 0, api.EOK)

	gets(t, l, task(1), 1, api.EAccess)
	gets(t, l, task(0), 2, api.EID)
	gets(t, l, task(7), 0, api.EID)
	drops(t, l, task(0), 1)
	drops(t, l, task(0), -1)
}

// Its third one.
func TestExample3(t *testing.T) {
	l := made(t, examples())
	answers(t, "Suspend", l.Suspend(false), api.OK)
	takes(t, l, 0, false)
	takes(t, l, 1, true)
	answers(t, "Close", l.Close(), api.OK)
	takes(t, l, 0, false)
	takes(t, l, 1, false)
	answers(t, "Put", l.Put(api.Gate{All: 256}), api.ErrArg)
}
