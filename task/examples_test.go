package task_test

import (
	"testing"

	"tappet/api"
)

// The chapter's first example.
func TestExample1(t *testing.T) {
	x := made(t, basic(2), extended())
	activates(t, x, 0, true)
	activates(t, x, 0, false)
	activatesNot(t, x, 0, api.ELimit)
	starts(t, x, 0, api.OK)
	starts(t, x, 1, api.ErrOne)
	ends(t, x, 0, api.Ready, api.OK)
	starts(t, x, 0, api.OK)
	ends(t, x, 0, api.Suspended, api.OK)
}

// Its second one.
func TestExample2(t *testing.T) {
	x := made(t, basic(2), extended())
	activates(t, x, 1, true)
	starts(t, x, 1, api.OK)
	tells(t, x.Wait, 1, api.OK)
	activatesNot(t, x, 1, api.ELimit)
	releases(t, x, 1, api.OK)
	starts(t, x, 1, api.OK)
	tells(t, x.Again, 1, api.OK)
	is(t, x, 1, api.Ready, 1)
}

// Its third one.
func TestExample3(t *testing.T) {
	x := made(t, basic(2), extended())
	starts(t, x, 0, api.ErrState)
	activates(t, x, 0, true)
	starts(t, x, 0, api.OK)
	tells(t, x.Wait, -1, api.ErrState)
	is(t, x, 0, api.Running, 1)
}
