package core_test

import (
	"testing"

	"tappet/api"
	"tappet/core"
)

// pair is a core and the book that it must be like.
type pair struct {
	c *core.Core
	b *book
}

func newPair(t *testing.T, x api.Tables) *pair {
	t.Helper()
	return &pair{made(t, x), newBook(x)}
}

func (p *pair) copied() *pair { return &pair{p.c.Copy(), p.b.copy()} }

func (p *pair) stands(t *testing.T) {
	t.Helper()
	stands(t, p.c, p.b)
}

func (p *pair) activate(t *testing.T, n int) {
	t.Helper()
	is(t, "Activate", p.c.Activate(n), p.b.activate(n))
}

func (p *pair) terminate(t *testing.T) {
	t.Helper()
	is(t, "Terminate", p.c.Terminate(), p.b.terminate())
}

func (p *pair) chain(t *testing.T, n int) {
	t.Helper()
	is(t, "Chain", p.c.Chain(n), p.b.chain(n))
}

func (p *pair) schedule(t *testing.T) {
	t.Helper()
	is(t, "Schedule", p.c.Schedule(), p.b.schedule())
}

func (p *pair) abort(t *testing.T) {
	t.Helper()
	is(t, "Abort", p.c.Abort(), p.b.abort())
}

func (p *pair) setEvent(t *testing.T, n int, mask uint32) {
	t.Helper()
	is(t, "SetEvent", p.c.SetEvent(n, mask), p.b.setEvent(n, mask))
}

func (p *pair) clearEvent(t *testing.T, mask uint32) {
	t.Helper()
	is(t, "ClearEvent", p.c.ClearEvent(mask), p.b.clearEvent(mask))
}

func (p *pair) waitEvent(t *testing.T, mask uint32) {
	t.Helper()
	is(t, "WaitEvent", p.c.WaitEvent(mask), p.b.waitEvent(mask))
}

func (p *pair) get(t *testing.T, o api.Owner, r int) {
	t.Helper()
	is(t, "Get", p.c.Get(o, r), p.b.get(o, r))
}

func (p *pair) release(t *testing.T, o api.Owner, r int) {
	t.Helper()
	is(t, "Release", p.c.Release(o, r), p.b.release(o, r))
}

func (p *pair) drop(t *testing.T, o api.Owner) {
	t.Helper()
	r, held := p.b.drop(o)
	if s, h := p.c.Drop(o); s != r || h != held {
		t.Fatalf("Drop(%v): %d %v, not %d %v", o, s, h, r, held)
	}
}

func (p *pair) carry(t *testing.T) {
	t.Helper()
	want, err := p.b.carry()
	if n, e := p.c.Carry(); n != want || e != err {
		t.Fatalf("Carry: %d %d, not %d %d", n, e, want, err)
	}
}

func (p *pair) best(t *testing.T) {
	t.Helper()
	want, err := p.b.best()
	if n, e := p.c.Run(); n != want || e != err {
		t.Fatalf("Run: %d %d, not %d %d", n, e, want, err)
	}
}

func (p *pair) preempt(t *testing.T) {
	t.Helper()
	want := p.b.preempt()
	if e := p.c.Preempt(); e != want {
		t.Fatalf("Preempt: %d, not %d", e, want)
	}
}

func (p *pair) reset() {
	p.c.Reset()
	p.b = newBook(p.b.x)
}

// settle does what layer 22 does behind a call, without hooks and interrupts.
func (p *pair) settle(t *testing.T) {
	t.Helper()
	for {
		switch {
		case p.c.Leaving() != api.LeaveNone:
			p.carry(t)
		case p.c.Running() < 0 && p.c.Waiting():
			p.best(t)
		case p.c.Due():
			p.preempt(t)
		default:
			return
		}
		p.stands(t)
		p.rises(t)
	}
}

// rises: P20.11: where Preempt is called only when it is due, and nobody but the running task gets and releases.
func (p *pair) rises(t *testing.T) {
	t.Helper()
	below := -1
	for _, n := range p.c.Look().Preempted {
		if x := p.c.Priority(task(n)); x <= below {
			t.Fatalf("current priorities do not rise: %+v", p.c.Look())
		} else {
			below = x
		}
	}
	if n := p.c.Running(); n >= 0 && p.c.Priority(task(n)) <= below {
		t.Fatalf("the running one is not above the preempted: %+v", p.c.Look())
	}
}
