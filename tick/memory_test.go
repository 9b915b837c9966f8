package tick_test

import (
	"reflect"
	"slices"
	"sync"
	"testing"

	"tappet/api"
)

// busy is a board on which counters have gone on, alarms of several are set, and ISRs are requested.
func busy(t *testing.T) *pair {
	t.Helper()
	p := newPair(t, ordinary())
	for range 7 {
		p.tick(t, 0)
		p.tick(t, 2)
	}
	p.auto(t, 0)
	p.rel(t, 3, 6, 4)
	p.abs(t, 2, 0, 2)
	p.request(t, 3)
	p.request(t, 0)
	p.request(t, 2)
	p.stands(t)
	return p
}

// R3: the tables are read, kept nowhere and not changed.
func TestTablesAreTheCallers(t *testing.T) {
	x := ordinary()
	kept := copied(x)
	p := newPair(t, x)
	c := chance(3)
	for range 100 {
		p.step(t, &c)
	}
	if !reflect.DeepEqual(x, kept) {
		t.Error("changed:", x)
	}
	clear(x.Tasks)
	clear(x.Rings)
	clear(x.Counters)
	clear(x.Alarms)
	clear(x.Isrs)
	for range 300 {
		p.step(t, &c)
		p.stands(t)
	}
}

// R3: what is told is the caller's own.
func TestToldIsNew(t *testing.T) {
	p := busy(t)
	v, w := p.b.Counters(), p.b.Counters()
	a, b := p.b.Alarms(), p.b.Alarms()
	r, s := p.b.Requested(), p.b.Requested()
	v[0], a[0], r[0] = 77, api.AlarmLook{Left: 77}, 77
	_ = append(v[:1], 78, 79)
	_ = append(a[:1], api.AlarmLook{Left: 78})
	_ = append(r[:1], 78, 79)
	p.stands(t)
	if !slices.Equal(w, p.k.counters()) || !slices.Equal(b, p.k.alarms()) || !slices.Equal(s, p.k.requested()) {
		t.Error("shared:", w, b, s)
	}
	base, _ := p.b.Base(0)
	base[0] = 77
	p.stands(t)
	p.tick(t, 0)
	p.calm(t)
	if w[0] != 7 || !b[3].Set || len(s) != 3 {
		t.Error("what was told changed:", w, b, s)
	}
}

// R3: what Tick tells is the caller's own; the next tick tells the same numbers.
func TestTickTellsNew(t *testing.T) {
	b := made(t, ordinary())
	for _, n := range []int{1, 3, 6} {
		is(t, "Rel", b.Rel(n, 2, 2), api.EOK)
	}
	ticks(t, b, 0, 1)
	first, _ := b.Tick(0)
	first[0], first[1], first[2] = 77, 78, 79
	_ = append(first[:0], 5, 5, 5, 5)
	ticks(t, b, 0, 2, 1, 3, 6)
	c := b.Copy()
	ticks(t, b, 0, 1)
	l, _ := b.Tick(0)
	l[2] = 0
	ticks(t, c, 0, 2, 1, 3, 6)
}

// P21.6, R4: a copy is alike, goes its own way, and so does what it was made of.
func TestCopyIsItsOwn(t *testing.T) {
	p := busy(t)
	q := p.copied(t)
	q.stands(t)
	p.tick(t, 0)
	p.cancel(t, 3)
	p.serve(t, 3)
	p.request(t, 4)
	p.auto(t, 1)
	q.stands(t)
	p.stands(t)
	q.tick(t, 2)
	q.rel(t, 1, 1, 0)
	q.tick(t, 0)
	q.serve(t, 0)
	q.stands(t)
	p.stands(t)
	third := q.copied(t)
	q.calm(t)
	q.stands(t)
	third.stands(t)
	third.calm(t)
	p.stands(t)
	is(t, "Rel", third.b.Rel(7, 1, 0), api.EID)
	is(t, "Request", third.b.Request(5), api.EID)
	if n, e := third.b.Auto(3); n != 0 || e != api.ErrArg {
		t.Error("Auto:", n, e)
	}
	third.auto(t, 2)
	third.stands(t)
	q.stands(t)
}

// R4: two boards of the same tables know nothing of one another.
func TestTwoBoards(t *testing.T) {
	p, q := busy(t), newPair(t, ordinary())
	q.stands(t)
	q.auto(t, 1)
	q.tick(t, 0)
	q.request(t, 1)
	q.stands(t)
	p.stands(t)
	q.calm(t)
	p.stands(t)
}

// What only tells changes nothing: several may ask at one time.
func TestAskedByMany(t *testing.T) {
	p := busy(t)
	var w sync.WaitGroup
	for range 4 {
		w.Add(1)
		go func() {
			defer w.Done()
			for n := range 100 {
				p.b.Base(n % 8)
				p.b.Left(n % 8)
				p.b.Counters()
				p.b.Alarms()
				p.b.Requested()
				p.b.Next(n, open)
				c := p.b.Copy()
				c.Tick(n % 4)
				c.Request(n % 5)
				c.Calm()
			}
		}()
	}
	w.Wait()
	p.stands(t)
}
