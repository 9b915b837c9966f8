package core_test

import (
	"testing"

	"tappet/api"
)

type deed func(t *testing.T, p *pair)

// plainDeeds are the calls that need no number but a mask.
func plainDeeds(masks ...uint32) []deed {
	deeds := []deed{
		func(t *testing.T, p *pair) { p.terminate(t) },
		func(t *testing.T, p *pair) { p.schedule(t) },
		func(t *testing.T, p *pair) { p.abort(t) },
		func(t *testing.T, p *pair) { p.carry(t) },
		func(t *testing.T, p *pair) { p.best(t) },
		func(t *testing.T, p *pair) { p.preempt(t) },
		func(t *testing.T, p *pair) { p.reset() },
	}
	for _, m := range masks {
		deeds = append(deeds,
			func(t *testing.T, p *pair) { p.clearEvent(t, m) },
			func(t *testing.T, p *pair) { p.waitEvent(t, m) })
	}
	return deeds
}

// taskDeeds are the calls with a task's number.
func taskDeeds(n int, masks ...uint32) []deed {
	deeds := []deed{
		func(t *testing.T, p *pair) { p.activate(t, n) },
		func(t *testing.T, p *pair) { p.chain(t, n) },
	}
	for _, m := range masks {
		deeds = append(deeds, func(t *testing.T, p *pair) { p.setEvent(t, n, m) })
	}
	return deeds
}

// ownerDeeds are the calls with an owner and a resource.
func ownerDeeds(o api.Owner, resources ...int) []deed {
	deeds := []deed{func(t *testing.T, p *pair) { p.drop(t, o) }}
	for _, r := range resources {
		deeds = append(deeds,
			func(t *testing.T, p *pair) { p.get(t, o, r) },
			func(t *testing.T, p *pair) { p.release(t, o, r) })
	}
	return deeds
}

// everywhere does every deed in every state that deeds lead to, and tells how many states these are. Each deed is done to a copy, which must not change what it was copied of.
func everywhere(t *testing.T, x api.Tables, deeds []deed) int {
	t.Helper()
	first := newPair(t, x)
	seen := map[string]int{first.b.key(): 1}
	work := []*pair{first}
	for len(work) > 0 {
		p := work[len(work)-1]
		work = work[:len(work)-1]
		for _, do := range deeds {
			q := p.copied()
			do(t, q)
			if k := q.b.key(); seen[k] == 0 {
				seen[k] = 1
				q.stands(t)
				work = append(work, q)
			} else {
				q.stands(t)
			}
		}
		p.stands(t)
	}
	return len(seen)
}

// P20.2 to P20.11: every call in every state of three tasks, a resource that two of them share, and an internal one.
func TestEveryState(t *testing.T) {
	deeds := plainDeeds(1, 2)
	for n := range 3 {
		deeds = append(deeds, taskDeeds(n, 1)...)
	}
	deeds = append(deeds, taskDeeds(1, 2)...)
	for _, o := range []api.Owner{task(0), task(1)} {
		deeds = append(deeds, ownerDeeds(o, 0)...)
	}
	n := everywhere(t, small(), deeds)
	t.Log("states:", n)
	if n < 1000 {
		t.Error("too few states for all that can be:", n)
	}
}

// The same of two extended tasks of one priority, which wait for nothing, too.
func TestEveryStateOfTwo(t *testing.T) {
	x := fitted(api.Tables{Tasks: []api.TaskRow{{Priority: 1, Full: true, Mask: 1, Internal: -1}, {Priority: 1, Mask: 1, Internal: 1}}})
	deeds := append(plainDeeds(0, 1), append(taskDeeds(0, 0, 1), taskDeeds(1, 0, 1)...)...)
	t.Log("states:", everywhere(t, x, deeds))
}

// step does one thing by chance; runs that get on are likelier than such as are refused.
func (p *pair) step(t *testing.T, c *chance) {
	t.Helper()
	n := c.below(len(p.b.x.Tasks)+2) - 1
	o, r := task(n), c.below(len(p.b.x.Resources)+2)-1
	if run := p.b.run; run >= 0 && !c.one(4) {
		o = task(run)
	} else if c.one(3) {
		o = isr(n)
	}
	mask := uint32(c.below(8))
	switch k := c.below(100); {
	case k < 15:
		p.activate(t, n)
	case k < 18:
		p.terminate(t)
	case k < 22:
		p.chain(t, n)
	case k < 25:
		p.schedule(t)
	case k < 26:
		p.abort(t)
	case k < 35:
		p.setEvent(t, n, mask)
	case k < 38:
		p.clearEvent(t, mask)
	case k < 44:
		p.waitEvent(t, mask)
	case k < 54:
		p.get(t, o, r)
	case k < 60:
		p.release(t, o, r)
	case k < 66:
		if h := p.b.held(o); len(h) > 0 {
			p.release(t, o, h[len(h)-1])
		}
	case k < 67:
		p.drop(t, o)
	case k < 77:
		p.carry(t)
	case k < 90:
		p.best(t)
	default:
		p.preempt(t)
	}
}

// P20.2 to P20.11, R4: long runs off tables made by chance, with copies that go their own ways: each step changes one core alone.
func TestLongRuns(t *testing.T) {
	c := chance(1)
	for n := range 300 {
		x := ordinary()
		if n > 20 {
			x = c.tables()
		}
		cores := []*pair{newPair(t, x)}
		for range 200 {
			p := cores[c.below(len(cores))]
			switch {
			case c.one(50) && len(cores) < 3:
				cores = append(cores, p.copied())
			case c.one(100):
				p.reset()
			default:
				p.step(t, &c)
			}
			for _, q := range cores {
				q.stands(t)
			}
		}
	}
}

// orderly does one thing that layer 22 lets be done, by chance, and settles.
func (p *pair) orderly(t *testing.T, c *chance) {
	t.Helper()
	n, mask, me := c.below(len(p.b.x.Tasks)), uint32(c.below(8)), task(p.b.run)
	r := c.below(len(p.b.x.Resources) + 1)
	switch k := c.below(100); {
	case k < 30:
		p.activate(t, n)
	case k < 40:
		p.setEvent(t, n, mask)
	case k < 46:
		p.waitEvent(t, mask)
	case k < 50:
		p.clearEvent(t, mask)
	case k < 68:
		p.get(t, me, r)
	case k < 82:
		if h := p.b.held(me); len(h) > 0 {
			p.release(t, me, h[len(h)-1])
		}
	case k < 86:
		p.schedule(t)
	case k < 91:
		p.terminate(t)
	case k < 94:
		p.chain(t, n)
	case k < 97:
		p.abort(t)
	default: // an event, or a start, comes while the task leaves to wait: behind its post task hook
		p.waitEvent(t, mask)
		p.setEvent(t, n, uint32(c.below(8)))
		p.activate(t, n)
	}
	p.stands(t)
	p.settle(t)
}

// P20.11, W4: runs as layer 22 makes them: current priorities rise on the stack, and a full task never runs below a ready one.
func TestOrderlyRuns(t *testing.T) {
	c := chance(7)
	deepest := 0
	for n := range 300 {
		x := ordinary()
		if n > 50 {
			x = c.tables()
		}
		p := newPair(t, x)
		for range 200 {
			p.orderly(t, &c)
			due(t, p.c, false)
			deepest = max(deepest, len(p.c.Look().Preempted))
		}
	}
	if deepest < 3 {
		t.Error("few were ever preempted:", deepest)
	}
}

// P20.2 to P20.11: whatever is done to the ordinary tables.
func FuzzCores(f *testing.F) {
	deeds := plainDeeds(0, 1, 2, 1<<31)
	for n := range 8 {
		deeds = append(deeds, taskDeeds(n, 1, 2, 1<<31)...)
		deeds = append(deeds, ownerDeeds(task(n), 0, 2, 3, 4)...)
	}
	deeds = append(deeds, ownerDeeds(isr(0), 1, 2)...)
	f.Add([]byte{15, 4, 29, 5, 3, 4, 9, 3, 4})
	f.Add([]byte{15, 15, 15, 4, 1, 2, 3, 4, 57, 5, 3, 4, 0, 3, 4})
	f.Add([]byte{85, 4, 86, 3, 4, 13, 16, 14, 3, 6, 255})
	f.Fuzz(func(t *testing.T, b []byte) {
		if len(b) > 300 {
			return
		}
		p := newPair(t, ordinary())
		for _, x := range b {
			deeds[int(x)%len(deeds)](t, p)
			p.stands(t)
		}
	})
}
