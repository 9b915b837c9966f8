package tick_test

import (
	"testing"

	"tappet/api"
)

// The chapter's first example.
func TestExample1(t *testing.T) {
	b := made(t, examples())
	is(t, "Rel", b.Rel(0, 2, 0), api.EOK)
	is(t, "Abs", b.Abs(1, 2, 3), api.EOK)
	ticks(t, b, 0, 1)
	ticks(t, b, 0, 1, 0, 1)
	notSet(t, b, 0)
	alarmIs(t, b, 1, 3, 3)
}

// Its second one.
func TestExample2(t *testing.T) {
	b := made(t, examples())
	requests(t, b, 0, 1)
	next(t, b, 0, open, 1)
	next(t, b, 90, open, -1)
	next(t, b, 0, api.Gate{All: 1}, -1)
	answers(t, "Serve", b.Serve(1), api.OK)
	next(t, b, 0, api.Gate{Os: 1}, -1)
	next(t, b, 69, open, 0)
	next(t, b, 70, open, -1)
}

// Its third one.
func TestExample3(t *testing.T) {
	b := made(t, examples())
	if v, s := b.Base(2); v != [3]uint32{} || s != api.EID {
		t.Error("Base(2):", v, s)
	}
	requests(t, b, 0)
	answers(t, "Serve", b.Serve(0), api.OK)
	answers(t, "Serve again", b.Serve(0), api.ErrArg)
	if l, e := b.Tick(1); len(l) != 0 || e != api.ErrArg {
		t.Error("Tick(1):", l, e)
	}
}
