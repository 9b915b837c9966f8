package clock_test

import (
	"sync"
	"testing"

	"tappet/api"
	"tappet/clock"
)

// R3: what is told is the caller's own.
func TestToldIsTheCallers(t *testing.T) {
	c := made(t, 9, 1, 2)
	ok(t, c.Rel(0, 1, 1))
	ok(t, c.Rel(1, 1, 1))
	l := c.Coming(3)
	l[0] = api.Expiry{In: 99, Alarm: 99}
	_ = append(l, api.Expiry{In: 98, Alarm: 98})
	coming(t, c, 3, api.Expiry{In: 1, Alarm: 0}, api.Expiry{In: 1, Alarm: 1}, api.Expiry{In: 2, Alarm: 0})
	first := c.Tick()
	first[0] = 77
	second := c.Tick()
	if len(second) != 2 || second[0] != 0 || second[1] != 1 {
		t.Error("second:", second)
	}
	second[1] = 66
	if first[0] != 77 || first[1] != 1 {
		t.Error("first:", first)
	}
	ticks(t, c, 1, 0, 1)
}

// P16.8, R3: a copy goes its own way, and so does what it was made of.
func TestCopyIsItsOwn(t *testing.T) {
	c := made(t, 9, 2, 3)
	ticks(t, c, 5)
	ok(t, c.Rel(0, 4, 3))
	ok(t, c.Abs(2, 5, 0))
	d := c.Copy()
	stands(t, d, 0, 4, 3)
	tellsNothing(t, d, 1, api.ENoFunc)
	stands(t, d, 2, 10, 0)
	tellsNothing(t, d, 3, api.EID)
	is(t, d.Rel(1, 1, 1), api.EValue)
	is(t, d.Rel(1, 10, 0), api.EValue)
	ok(t, d.Rel(1, 1, 0))
	tellsNothing(t, c, 1, api.ENoFunc)
	ticks(t, c, 4, 0)
	stands(t, d, 0, 4, 3)
	if c.Value() != 9 || d.Value() != 5 {
		t.Error("Value:", c.Value(), d.Value())
	}
	ok(t, d.Cancel(0))
	stands(t, c, 0, 3, 3)
	ticks(t, d, 1, 1)
	c.Reset()
	stands(t, d, 2, 9, 0)
	if d.Value() != 6 {
		t.Error("Value:", d.Value())
	}
	d.Reset()
	if e := d.Copy(); e == nil || e.Value() != 0 {
		t.Error("a copy of a copy:", e)
	}
}

// P16.8: a clock of no alarm has a copy, too.
func TestCopyOfNoAlarm(t *testing.T) {
	c := made(t, 1, 1, 0)
	ticks(t, c, 1)
	d := c.Copy()
	if d == nil || d.Value() != 1 {
		t.Fatal(d)
	}
	ticks(t, d, 1)
	tellsNothing(t, d, 0, api.EID)
	if c.Value() != 1 || d.Value() != 0 {
		t.Error("Value:", c.Value(), d.Value())
	}
}

// R4: two clocks of the same counter know nothing of one another.
func TestTwoClocks(t *testing.T) {
	x := api.Counter{Name: "c", Max: 9, Base: 1, Min: 1}
	c, _ := clock.New(x, 2)
	d, _ := clock.New(x, 2)
	ok(t, c.Rel(0, 3, 0))
	ok(t, d.Rel(0, 2, 2))
	ticks(t, c, 3, 0)
	stands(t, d, 0, 2, 2)
	d.Reset()
	if c.Value() != 3 || d.Value() != 0 {
		t.Error("Value:", c.Value(), d.Value())
	}
}

// What only tells changes nothing: several may ask at one time.
func TestAskedByMany(t *testing.T) {
	c := made(t, 9, 1, 2)
	ticks(t, c, 2)
	ok(t, c.Rel(0, 3, 4))
	var w sync.WaitGroup
	for range 4 {
		w.Add(1)
		go func() {
			defer w.Done()
			for range 100 {
				c.Value()
				c.Left(0)
				c.Cycle(0)
				c.Coming(5)
				c.Copy().Tick()
			}
		}()
	}
	w.Wait()
	stands(t, c, 0, 3, 4)
}
