package lock_test

import (
	"testing"

	"tappet/api"
	"tappet/lock"
)

// pair is a lock and the book that it must be like.
type pair struct {
	l *lock.Lock
	b *book
}

func newPair(t *testing.T, x api.Tables) *pair {
	t.Helper()
	return &pair{made(t, x), newBook(x)}
}

func (p *pair) get(t *testing.T, o api.Owner, r int) api.Status {
	t.Helper()
	s := p.b.get(o, r)
	gets(t, p.l, o, r, s)
	return s
}

func (p *pair) release(t *testing.T, o api.Owner, r int) api.Status {
	t.Helper()
	s := p.b.release(o, r)
	releases(t, p.l, o, r, s)
	return s
}

func (p *pair) drop(t *testing.T, o api.Owner) {
	t.Helper()
	r, _ := p.b.drop(o)
	drops(t, p.l, o, r)
}

func (p *pair) enter(t *testing.T, n int) {
	t.Helper()
	answers(t, "Enter", p.l.Enter(n), p.b.enter(n))
}

func (p *pair) leave(t *testing.T, n int) {
	t.Helper()
	answers(t, "Leave", p.l.Leave(n), p.b.leave(n))
}

func (p *pair) shut(t *testing.T, shut bool) {
	t.Helper()
	call := p.l.Open
	if shut {
		call = p.l.Close
	}
	answers(t, "Close or Open", call(), api.OK)
	p.b.gate.Shut = shut
}

func (p *pair) suspend(t *testing.T, all bool) {
	t.Helper()
	answers(t, "Suspend", p.l.Suspend(all), api.OK)
	if n := &p.b.gate.Os; !all && *n < 255 {
		*n++
	}
	if n := &p.b.gate.All; all && *n < 255 {
		*n++
	}
}

func (p *pair) resume(t *testing.T, all bool) {
	t.Helper()
	answers(t, "Resume", p.l.Resume(all), api.OK)
	if n := &p.b.gate.Os; !all && *n > 0 {
		*n--
	}
	if n := &p.b.gate.All; all && *n > 0 {
		*n--
	}
}

func (p *pair) put(t *testing.T, g api.Gate) {
	t.Helper()
	answers(t, "Put", p.l.Put(g), api.OK)
	p.b.gate = g
}

func (p *pair) reset(t *testing.T) {
	t.Helper()
	answers(t, "Reset", p.l.Reset(), api.OK)
	p.b = newBook(p.b.x)
}

// copied goes on as the copy; the other is given back.
func (p *pair) copied(t *testing.T) *pair {
	t.Helper()
	old := *p
	if p.l, p.b = p.l.Copy(), p.b.copy(); p.l == nil || p.l == old.l {
		t.Fatal("no copy of its own")
	}
	return &old
}

func (p *pair) stands(t *testing.T) {
	t.Helper()
	stands(t, p.l, p.b)
}

// thereAndBack: P19.6: what is taken and given back, and given back and taken again, leaves all as it was.
func (p *pair) thereAndBack(t *testing.T) {
	t.Helper()
	for _, o := range owners(p.b.x) {
		for r := range p.b.x.Resources {
			if p.l.Get(o, r) == api.EOK {
				releases(t, p.l, o, r, api.EOK)
			}
			if p.l.Release(o, r) == api.EOK {
				gets(t, p.l, o, r, api.EOK)
			}
		}
	}
	p.stands(t)
}

// deedsOf are all calls that change a lock, of these owners and resources.
func deedsOf(t *testing.T, who []api.Owner, resources ...int) []func(p *pair) {
	deeds := []func(p *pair){
		func(p *pair) { p.reset(t) },
		func(p *pair) {
			old := p.copied(t)
			old.drop(t, who[0])
			old.enter(t, 0)
			old.suspend(t, true)
			old.stands(t)
		},
	}
	for _, o := range who {
		deeds = append(deeds,
			func(p *pair) { p.drop(t, o) },
			func(p *pair) { p.enter(t, o.ID) },
			func(p *pair) { p.leave(t, o.ID) })
		for _, r := range resources {
			deeds = append(deeds,
				func(p *pair) { p.get(t, o, r) },
				func(p *pair) { p.release(t, o, r) })
		}
	}
	for _, yes := range []bool{true, false} {
		deeds = append(deeds,
			func(p *pair) { p.shut(t, yes) },
			func(p *pair) { p.suspend(t, yes) },
			func(p *pair) { p.resume(t, yes) })
	}
	return deeds
}

// P19.2 to P19.6: every call of a task and an ISR that share a resource, in every order, up to four deep.
func TestEveryShortRun(t *testing.T) {
	x := fitted(api.Tables{
		Tasks:     []api.TaskRow{{Priority: 1, Internal: 2, Own: []int{0, 1}}},
		Resources: []api.ResourceRow{{Ceiling: 70}, {Ceiling: 1}},
		Isrs:      []api.IsrRow{{Category: 2, Priority: 70, Own: []int{0}}},
	})
	deeds := deedsOf(t, []api.Owner{task(0), isr(0)}, 0, 1)
	count := 1
	for long := range 5 {
		for n := range count {
			p := newPair(t, x)
			for range long {
				deeds[n%len(deeds)](p)
				n /= len(deeds)
			}
			p.stands(t)
		}
		count *= len(deeds)
	}
}

// step does one thing by chance; runs that get on are likelier than such as are refused.
func (p *pair) step(t *testing.T, c *chance) (old *pair) {
	t.Helper()
	all := owners(p.b.x)
	o, r := all[c.below(len(all))], c.below(len(p.b.x.Resources)+2)-1
	switch k := c.below(100); {
	case k < 50:
		p.get(t, o, r)
	case k < 60:
		p.release(t, o, r)
	case k < 75:
		if h := p.l.Held(o); len(h) > 0 {
			p.release(t, o, h[len(h)-1])
		}
	case k < 78:
		p.drop(t, o)
	case k < 83:
		p.enter(t, o.ID)
	case k < 87:
		p.leave(t, o.ID)
	case k < 90:
		p.shut(t, c.below(2) == 0)
	case k < 94:
		p.suspend(t, c.below(2) == 0)
	case k < 97:
		p.resume(t, c.below(2) == 0)
	case k < 98:
		p.reset(t)
	default:
		old = p.copied(t)
	}
	return old
}

// P19.2 to P19.6, R4: long runs off tables made by chance, with copies that go their own ways: each step changes one lock alone.
func TestLongRuns(t *testing.T) {
	c := chance(1)
	for n := range 200 {
		x := ordinary()
		if n > 20 {
			x = c.tables()
		}
		locks := []*pair{newPair(t, x)}
		for k := range 150 {
			p := locks[c.below(len(locks))]
			if old := p.step(t, &c); old != nil && len(locks) < 3 {
				locks = append(locks, old)
			}
			for _, q := range locks {
				q.stands(t)
			}
			if k%10 == 0 {
				p.thereAndBack(t)
			}
		}
	}
}

// P19.2 to P19.6: whatever is done to the ordinary tables.
func FuzzLocks(f *testing.F) {
	f.Add([]byte{1, 8, 9, 1, 8})
	f.Add([]byte{5, 16, 17, 3, 0, 8, 17, 10, 4})
	f.Add([]byte{14, 24, 25, 1, 26, 25, 2, 25, 3, 6, 255})
	f.Fuzz(func(t *testing.T, b []byte) {
		if len(b) > 200 {
			return
		}
		p := newPair(t, ordinary())
		deeds := deedsOf(t, []api.Owner{task(1), task(4), isr(0), isr(2), task(9)}, 0, 1, 2, 5, 6)
		for _, x := range b {
			deeds[int(x)%len(deeds)](p)
			p.stands(t)
		}
	})
}
