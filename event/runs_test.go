package event_test

import (
	"testing"

	"tappet/api"
	"tappet/event"
)

// pair is a table and the book that it must be like.
type pair struct {
	x *event.Table
	b book
}

func newPair(t *testing.T, masks ...uint32) *pair {
	t.Helper()
	return &pair{made(t, masks...), newBook(masks)}
}

func (p *pair) set(t *testing.T, task int, mask uint32) {
	t.Helper()
	woken, s := p.x.Set(task, mask)
	if w, want := p.b.set(task, mask); woken != w || s != want {
		t.Fatalf("Set(%d, %#x): %v %d, not %v %d", task, mask, woken, s, w, want)
	}
}

func (p *pair) clear(t *testing.T, task int, mask uint32) {
	t.Helper()
	if s, want := p.x.Clear(task, mask), p.b.clear(task, mask); s != want {
		t.Fatalf("Clear(%d, %#x): %d, not %d", task, mask, s, want)
	}
}

func (p *pair) wait(t *testing.T, task int, mask uint32) {
	t.Helper()
	begun, s := p.x.Wait(task, mask)
	if w, want := p.b.wait(task, mask); begun != w || s != want {
		t.Fatalf("Wait(%d, %#x): %v %d, not %v %d", task, mask, begun, s, w, want)
	}
}

func (p *pair) fresh(t *testing.T, task int) {
	t.Helper()
	if s, want := p.x.Fresh(task), p.b.fresh(task); s != want {
		t.Fatalf("Fresh(%d): %d, not %d", task, s, want)
	}
}

func (p *pair) reset(t *testing.T) {
	t.Helper()
	if e := p.x.Reset(); e != api.OK {
		t.Fatal("Reset:", e)
	}
	for task := range p.b {
		p.b.fresh(task)
	}
}

// copied goes on as the copy; the other is given back.
func (p *pair) copied() *pair {
	old := *p
	p.x, p.b = p.x.Copy(), p.b.copy()
	return &old
}

func (p *pair) stands(t *testing.T) {
	t.Helper()
	stands(t, p.x, p.b)
}

// runs does all rows of so many of the deeds, each with a table of its own.
func runs(t *testing.T, long int, masks []uint32, deeds []func(p *pair)) {
	t.Helper()
	count := 1
	for range long {
		count *= len(deeds)
	}
	for n := range count {
		p := newPair(t, masks...)
		for range long {
			deeds[n%len(deeds)](p)
			n /= len(deeds)
		}
		p.stands(t)
	}
}

// P15.3 to P15.6: every call of one task in every order, up to four deep.
func TestEveryShortRun(t *testing.T) {
	deeds := []func(p *pair){
		func(p *pair) { p.fresh(t, 0) },
		func(p *pair) { p.reset(t) },
		func(p *pair) { p.copied() },
	}
	for mask := range uint32(4) {
		deeds = append(deeds,
			func(p *pair) { p.set(t, 0, mask) },
			func(p *pair) { p.wait(t, 0, mask) })
	}
	for _, mask := range []uint32{1, 3} {
		deeds = append(deeds, func(p *pair) { p.clear(t, 0, mask) })
	}
	for long := range 5 {
		runs(t, long, []uint32{3}, deeds)
	}
}

// P15.2 to P15.6: every call of several tasks, basic ones and none among them, in every order.
func TestEveryTask(t *testing.T) {
	var deeds []func(p *pair)
	for task := -1; task < 4; task++ {
		deeds = append(deeds,
			func(p *pair) { p.set(t, task, 2) },
			func(p *pair) { p.wait(t, task, 2) },
			func(p *pair) { p.clear(t, task, 2) },
			func(p *pair) { p.fresh(t, task) })
	}
	deeds = append(deeds,
		func(p *pair) { p.reset(t) },
		func(p *pair) {
			old := p.copied()
			old.set(t, 0, 3)
			old.wait(t, 2, 1)
			old.stands(t)
		})
	for long := range 4 {
		runs(t, long, []uint32{1, 0, 2}, deeds)
	}
}

// mask is one by chance: few bits, none, or all.
func (c *chance) mask() uint32 {
	switch c.below(10) {
	case 0:
		return 0
	case 1:
		return all
	case 2:
		return uint32(1) << c.below(32)
	}
	return uint32(c.below(16))
}

// step does one thing by chance.
func (p *pair) step(t *testing.T, c *chance) (old *pair) {
	t.Helper()
	task := c.below(len(p.b)+2) - 1
	switch n := c.below(100); {
	case n < 35:
		p.set(t, task, c.mask())
	case n < 60:
		p.wait(t, task, c.mask())
	case n < 85:
		p.clear(t, task, c.mask())
	case n < 95:
		p.fresh(t, task)
	case n < 97:
		p.reset(t)
	default:
		old = p.copied()
	}
	return old
}

// P15.2 to P15.6, R4: long runs, with copies that go their own ways: each step changes one table alone.
func TestLongRuns(t *testing.T) {
	c := chance(1)
	for range 150 {
		masks := make([]uint32, c.below(6))
		for i := range masks {
			masks[i] = c.mask()
		}
		tables := []*pair{newPair(t, masks...)}
		for range 120 {
			p := tables[c.below(len(tables))]
			if old := p.step(t, &c); old != nil && len(tables) < 3 {
				tables = append(tables, old)
			}
			for _, q := range tables {
				q.stands(t)
			}
		}
	}
}

// P15.2 to P15.6: whatever is done to three tasks, of which the first byte tells which are extended.
func FuzzEvents(f *testing.F) {
	f.Add([]byte{1, 0, 1, 3, 2, 3, 1, 0, 2})
	f.Add([]byte{5, 3, 0, 0, 7, 9, 255})
	f.Add([]byte{7, 6, 3, 4, 9, 12, 1, 18, 0})
	f.Fuzz(func(t *testing.T, b []byte) {
		if len(b) == 0 || len(b) > 200 {
			return
		}
		p := newPair(t, uint32(b[0]&1), uint32(b[0]&2), uint32(b[0]&4))
		for b = b[1:]; len(b) > 1; b = b[2:] {
			task, mask := int(b[0]/6)%5-1, uint32(b[1])<<(b[0]%25)
			switch b[0] % 6 {
			case 0, 1:
				p.set(t, task, mask)
			case 2:
				p.clear(t, task, mask)
			case 3:
				p.wait(t, task, mask)
			case 4:
				p.fresh(t, task)
			case 5:
				p.copied().stands(t)
			}
			p.stands(t)
		}
	})
}
