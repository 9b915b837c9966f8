package clock_test

import (
	"testing"

	"tappet/api"
	"tappet/clock"
)

// The chapter's first example.
func TestExample1(t *testing.T) {
	c := made(t, 9, 2, 3)
	ok(t, c.Rel(0, 3, 0))
	ok(t, c.Rel(1, 3, 2))
	ticks(t, c, 3, 0, 1)
	ticks(t, c, 2, 1)
	tellsNothing(t, c, 0, api.ENoFunc)
	stands(t, c, 1, 2, 2)
}

// Its second one.
func TestExample2(t *testing.T) {
	c := made(t, 9, 2, 3)
	ticks(t, c, 7)
	if v := c.Value(); v != 7 {
		t.Fatal("Value:", v)
	}
	ok(t, c.Abs(2, 7, 0))
	stands(t, c, 2, 10, 0)
	is(t, c.Abs(2, 7, 0), api.EState)
	is(t, c.Rel(0, 10, 0), api.EValue)
	is(t, c.Rel(0, 1, 1), api.EValue)
	is(t, c.Rel(3, 1, 0), api.EID)
}

// Its third one.
func TestExample3(t *testing.T) {
	c := made(t, 9, 2, 3)
	ok(t, c.Rel(0, 2, 3))
	ok(t, c.Rel(1, 2, 0))
	coming(t, c, 3, api.Expiry{In: 2, Alarm: 0}, api.Expiry{In: 2, Alarm: 1}, api.Expiry{In: 5, Alarm: 0})
}

// Its fourth one.
func TestExample4(t *testing.T) {
	if v := clock.After(9, 8, 1<<64-1); v != 3 {
		t.Error("After:", v)
	}
	if v := clock.Until(9, 7, 2); v != 5 {
		t.Error("Until:", v)
	}
}
