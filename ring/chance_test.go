package ring_test

import (
	"testing"

	"tappet/ring"
)

// pair is a ring and the row that it must be like.
type pair struct {
	r    *ring.Ring[int]
	w    *row[int]
	next int // what is put next; never 0, which is told where there is nothing
}

const deeds = 5

// do does one thing to both; a copy goes on in the place of the other, which is kept apart.
func (p *pair) do(t *testing.T, deed int) (old *pair) {
	t.Helper()
	switch deed {
	case 0, 1:
		p.next++
		put, at := p.r.Last, len(p.w.list)
		if deed == 1 {
			put, at = p.r.First, 0
		}
		if e, want := put(p.next), p.w.put(at, p.next); e != want {
			t.Fatalf("put: %d, not %d", e, want)
		}
	case 2:
		v, e := p.r.Take()
		if w, want := p.w.take(); v != w || e != want {
			t.Fatalf("Take: %d %d, not %d %d", v, e, w, want)
		}
	case 3:
		if n, want := p.r.Clear(), p.w.clear(); n != want {
			t.Fatalf("Clear: %d, not %d", n, want)
		}
	case 4:
		old = &pair{p.r, p.w, p.next}
		p.r, p.w = p.r.Copy(), p.w.copy()
	}
	return old
}

// P12.2 to P12.7: every short row of deeds, in every small room.
func TestEveryShortRun(t *testing.T) {
	const long = 7
	for room := range 4 {
		runs := 1
		for range long {
			runs *= deeds
		}
		for n := range runs {
			p := &pair{made[int](t, room), &row[int]{room: room}, 0}
			for range long {
				p.do(t, n%deeds)
				n /= deeds
			}
			stands(t, p.r, p.w)
		}
	}
}

// chance gives numbers that are the same in each run.
type chance uint64

func (c *chance) below(n int) int {
	*c = *c*6364136223846793005 + 1442695040888963407
	return int(uint64(*c>>33) % uint64(n))
}

// P12.2 to P12.7, R4: long runs, with copies that go their own ways: each step changes one ring alone.
func TestLongRuns(t *testing.T) {
	c := chance(1)
	for range 400 {
		room := c.below(9)
		all := []*pair{{made[int](t, room), &row[int]{room: room}, 0}}
		often := []int{0, 0, 0, 1, 1, 2, 2, 2, 2}
		if c.below(2) == 0 {
			often = append(often, 3, 4)
		}
		for range 150 {
			p := all[c.below(len(all))]
			if old := p.do(t, often[c.below(len(often))]); old != nil && len(all) < 4 {
				all = append(all, old)
			}
			for _, q := range all {
				stands(t, q.r, q.w)
			}
		}
	}
}

// P12.2 to P12.7: whatever is done, the first byte the room.
func FuzzRing(f *testing.F) {
	f.Add([]byte{2, 0, 1, 0, 2, 2, 2})
	f.Add([]byte{0, 0, 1, 2, 3, 4})
	f.Add([]byte{5, 1, 0, 0, 2, 0, 0, 4, 1, 3, 0})
	f.Fuzz(func(t *testing.T, b []byte) {
		if len(b) == 0 || len(b) > 200 {
			return
		}
		room := int(b[0] % 16)
		p := &pair{made[int](t, room), &row[int]{room: room}, 0}
		for _, x := range b[1:] {
			old := p.do(t, int(x)%deeds)
			stands(t, p.r, p.w)
			if old != nil {
				stands(t, old.r, old.w)
			}
		}
	})
}
