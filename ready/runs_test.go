package ready_test

import (
	"testing"

	"tappet/api"
	"tappet/ready"
)

// pair is a queue and the list that it must be like.
type pair struct {
	q    *ready.Queue
	w    *plain
	next int // the id that is put next; never 0, which is told where there is nothing
}

func newPair(t *testing.T, l []api.RingRow) *pair {
	t.Helper()
	return &pair{q: madeOf(t, l), w: newPlain(l)}
}

func (p *pair) put(t *testing.T, at int, tail bool) {
	t.Helper()
	p.next++
	put := p.q.Head
	if tail {
		put = p.q.Tail
	}
	if e, want := put(at, p.next), p.w.put(at, p.next, tail); e != want {
		t.Fatalf("put at %d: %d, not %d", at, e, want)
	}
}

func (p *pair) take(t *testing.T) {
	t.Helper()
	x, e := p.q.Take()
	if y, want := p.w.take(); x != y || e != want {
		t.Fatalf("Take: %v %d, not %v %d", x, e, y, want)
	}
}

func (p *pair) clear(t *testing.T) {
	t.Helper()
	if n, want := p.q.Clear(), p.w.clear(); n != want {
		t.Fatalf("Clear: %d, not %d", n, want)
	}
}

// copied goes on as the copy; the other is given back.
func (p *pair) copied() *pair {
	old := *p
	p.q, p.w = p.q.Copy(), p.w.copy()
	return &old
}

// look asks for one thing alone: nothing that is told may hang on what was asked ahead of it.
func (p *pair) look(what int) {
	switch what {
	case 0:
		p.q.Highest()
	case 1:
		p.q.Bits()
	case 2:
		p.q.Ring(1)
	case 3:
		p.q.Len()
	case 4:
		p.q.High(1)
	case 5:
		for range p.q.All() {
			break
		}
	}
}

// P13.2 to P13.5: every call of the chapter in every order, up to six deep, in two small rings.
func TestEveryShortRun(t *testing.T) {
	deeds := []func(p *pair){
		func(p *pair) { p.put(t, 3, true) },
		func(p *pair) { p.put(t, 1, true) },
		func(p *pair) { p.put(t, 3, false) },
		func(p *pair) { p.put(t, 1, false) },
		func(p *pair) { p.put(t, 2, true) },
		func(p *pair) { p.take(t) },
		func(p *pair) { p.clear(t) },
		func(p *pair) { p.copied() },
	}
	l := rows([2]int{3, 1}, [2]int{1, 2})
	runs := 1
	for long := range 7 {
		for n := range runs {
			p := newPair(t, l)
			for range long {
				deeds[n%len(deeds)](p)
				n /= len(deeds)
			}
			short(t, p)
		}
		runs *= len(deeds)
	}
}

// short is stands, of the rings of the short runs alone.
func short(t *testing.T, p *pair) {
	t.Helper()
	b := p.q.Bits()
	if p.q.Len() != len(p.w.list) || b != p.w.bits() {
		t.Fatalf("Len %d, Bits %b, not as %v", p.q.Len(), b, p.w.list)
	}
	for at := range 5 {
		if p.q.High(at) != p.w.high[at] {
			t.Fatalf("High(%d): %d, not as %v", at, p.q.High(at), *p.w)
		}
	}
	i := 0
	for x := range p.q.All() {
		if i >= len(p.w.list) || x != p.w.list[i] {
			t.Fatalf("All: %v at %d, not as %v", x, i, p.w.list)
		}
		i++
	}
	if at, ok := p.q.Highest(); i != len(p.w.list) || ok != (i > 0) || ok && at != p.w.list[0].Priority || !ok && at != 0 {
		t.Fatalf("Highest: %d %v, not as %v", at, ok, p.w.list)
	}
}

// step does one thing by chance.
func (p *pair) step(t *testing.T, c *chance, l []api.RingRow) (old *pair) {
	t.Helper()
	at := c.below(70) - 3
	if len(l) > 0 && c.below(10) > 0 {
		at = l[c.below(len(l))].Priority
	}
	switch n := c.below(40); {
	case n < 12:
		p.put(t, at, true)
	case n < 20:
		p.put(t, at, false)
	case n < 35:
		p.take(t)
	case n < 36:
		p.clear(t)
	case n < 38:
		old = p.copied()
	default:
		p.look(c.below(6))
	}
	return old
}

// P13.2 to P13.5, R4: long runs over many rings, with copies that go their own ways: each step changes one queue alone.
func TestLongRuns(t *testing.T) {
	c := chance(1)
	for n := range 150 {
		var l []api.RingRow
		for p := 63; p >= 0; p-- {
			if c.below(1+n%12) == 0 {
				l = append(l, api.RingRow{Priority: p, Capacity: 1 + c.below(4)})
			}
		}
		all := []*pair{newPair(t, l)}
		for range 60 {
			p := all[c.below(len(all))]
			if old := p.step(t, &c, l); old != nil && len(all) < 3 {
				all = append(all, old)
			}
			for _, q := range all {
				stands(t, q.q, q.w)
			}
		}
	}
}

// A ring is used again and again, beyond every number of times that its room has.
func TestUsedLong(t *testing.T) {
	l := rows([2]int{63, 3}, [2]int{1, 2})
	p := newPair(t, l)
	c := chance(3)
	for range 40000 {
		p.put(t, l[c.below(2)].Priority, c.below(3) > 0)
		if c.below(2) == 0 {
			p.take(t)
		}
	}
	stands(t, p.q, p.w)
}

// P13.2 to P13.5: whatever is done.
func FuzzQueue(f *testing.F) {
	f.Add([]byte{0, 1, 2, 64, 65, 128, 192, 200})
	f.Add([]byte{255, 254, 253, 3, 67, 131, 195})
	f.Fuzz(func(t *testing.T, b []byte) {
		if len(b) > 100 {
			return
		}
		l := rows([2]int{63, 2}, [2]int{60, 1}, [2]int{32, 2}, [2]int{31, 1}, [2]int{0, 3})
		p := newPair(t, l)
		for _, x := range b {
			at := []int{63, 60, 32, 31, 0, -1, 64, 5}[x%8]
			switch x / 64 {
			case 0:
				p.put(t, at, true)
			case 1:
				p.put(t, at, false)
			case 2:
				p.take(t)
			default:
				old := p.copied()
				if x%4 == 0 {
					p.clear(t)
				}
				stands(t, old.q, old.w)
			}
			stands(t, p.q, p.w)
		}
	})
}

// The rings are laid out by New: what is put, taken and asked later asks for no memory.
func TestNoMemoryAsked(t *testing.T) {
	q := made(t, [2]int{63, 4}, [2]int{20, 2}, [2]int{0, 4})
	n := testing.AllocsPerRun(100, func() {
		for i := range 6 {
			q.Tail(63, i)
			q.Head(20, i)
			q.Tail(0, i)
			q.Tail(5, i)
		}
		for range 5 {
			q.Take()
			q.Highest()
			q.Bits()
			q.Len()
			q.High(20)
		}
		q.Clear()
	})
	if n != 0 {
		t.Error("asked for memory:", n)
	}
}

// R2: a call that is refused changes nothing.
func TestRefusedChangesNothing(t *testing.T) {
	l := rows([2]int{5, 2}, [2]int{4, 1})
	p := newPair(t, l)
	for _, at := range []int{5, 4, 5} {
		p.put(t, at, true)
	}
	for range 3 {
		for _, at := range []int{5, 4, 3, 6, -1, 64} {
			p.put(t, at, true)
			p.put(t, at, false)
			stands(t, p.q, p.w)
		}
	}
	for range 6 {
		p.take(t)
		stands(t, p.q, p.w)
	}
	for range 3 {
		if _, e := p.q.Take(); e != api.ErrEmpty {
			t.Error("Take:", e)
		}
		stands(t, p.q, p.w)
	}
}
