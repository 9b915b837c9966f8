package core_test

import (
	"testing"

	"tappet/api"
	"tappet/lock"
)

// P20.5: Get, Release, Drop, Held and Priority answer as a lock of the same tables, of all owners and resources and of such as there are not; whoever runs.
func TestAsTheLock(t *testing.T) {
	for _, ahead := range []func(p *pair){
		func(p *pair) {},
		func(p *pair) { p.activate(t, 0) },
		func(p *pair) { p.activate(t, 0); p.best(t) },
		func(p *pair) { p.activate(t, 2); p.best(t); p.terminate(t) },
	} {
		p := newPair(t, ordinary())
		ahead(p)
		l, _ := lock.New(ordinary())
		c := chance(3)
		for range 3000 {
			o, r := api.Owner{Isr: c.one(3), ID: c.below(9) - 1}, c.below(7)-1
			switch {
			case c.one(2):
				is(t, "Get", p.c.Get(o, r), l.Get(o, r))
			case c.one(8):
				m, had := l.Drop(o)
				if n, held := p.c.Drop(o); n != m || held != had {
					t.Fatalf("Drop(%v): %d %v, not %d %v", o, n, held, m, had)
				}
			default:
				is(t, "Release", p.c.Release(o, r), l.Release(o, r))
			}
			if h, x := p.c.Held(o), l.Held(o); len(h) != len(x) || p.c.Priority(o) != l.Priority(o) {
				t.Fatalf("Held, Priority of %v: %v %d, not %v %d", o, h, p.c.Priority(o), x, l.Priority(o))
			}
		}
	}
}

// P20.5: each status once, told by hand; an ISR holds as a task does.
func TestGetAndRelease(t *testing.T) {
	c := made(t, ordinary())
	is(t, "Get", c.Get(task(0), 2), api.EOK)
	is(t, "Get of what is held", c.Get(isr(0), 2), api.EAccess)
	is(t, "Get of what is not its own", c.Get(task(1), 3), api.EAccess)
	is(t, "Get of an internal one", c.Get(task(3), 1), api.EID)
	is(t, "Get of none", c.Get(task(3), 5), api.EID)
	is(t, "Get of nobody", c.Get(task(7), 0), api.EID)
	is(t, "Get of no ISR", c.Get(isr(2), 2), api.EID)
	is(t, "Get", c.Get(task(0), 4), api.EOK)
	is(t, "Release of what was not taken last", c.Release(task(0), 2), api.ENoFunc)
	is(t, "Release of an internal one", c.Release(task(0), 1), api.EID)
	if p := c.Priority(task(0)); p != 70 {
		t.Error("Priority:", p)
	}
	if r, held := c.Drop(task(0)); r != 4 || !held {
		t.Error("Drop:", r, held)
	}
	if r, held := c.Drop(task(0)); r != -1 || held {
		t.Error("Drop:", r, held)
	}
	is(t, "Get", c.Get(isr(0), 2), api.EOK)
	if h, p := c.Held(isr(0)), c.Priority(isr(0)); len(h) != 1 || h[0] != 2 || p != 70 {
		t.Error("Held, Priority:", h, p)
	}
	if p, q := c.Priority(isr(1)), c.Priority(isr(2)); p != 90 || q != -1 {
		t.Error("Priority:", p, q)
	}
}
