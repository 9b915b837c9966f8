package lock_test

import (
	"math"
	"slices"
	"testing"

	"tappet/api"
	"tappet/lock"
	"tappet/table"
)

func task(id int) api.Owner { return api.Owner{ID: id} }

func isr(id int) api.Owner { return api.Owner{Isr: true, ID: id} }

// beyond are numbers of nothing, where there are at most 65 of a kind.
var beyond = []int{-1, -2, -65, -256, 65, 255, 256, 257, 1 << 16, 1 << 32, 1<<32 + 1, math.MaxInt, math.MinInt}

// fitted gives tables the rings of their tasks, and the room that their rows need.
func fitted(x api.Tables) api.Tables {
	x.Modes, x.Rings = 1, nil
	for p := api.MaxPriority; p >= 0; p-- {
		ring := api.RingRow{Priority: p}
		for i := range x.Tasks {
			if x.Tasks[i].Priority == p {
				x.Tasks[i].Ring, x.Tasks[i].Limit = len(x.Rings), 1
				ring.Capacity++
			}
		}
		if ring.Capacity > 0 {
			x.Rings = append(x.Rings, ring)
		}
	}
	x.Depth, x.Frames, x.Errors = len(x.Rings), len(x.Isrs)+4, 2
	return x
}

// examples are the tables of the chapter's examples, with an ISR of each category.
func examples() api.Tables {
	return fitted(api.Tables{
		Tasks:     []api.TaskRow{{Priority: 1, Internal: -1, Own: []int{0, 1}}, {Priority: 3, Internal: -1, Own: []int{0}}},
		Resources: []api.ResourceRow{{Ceiling: 3}, {Ceiling: 1}},
		Isrs:      []api.IsrRow{{Category: 2, Priority: 70}, {Category: 1, Priority: 90}},
	})
}

// ordinary are tables with all that owners may have: resources of tasks, of ISRs, of both, of nobody, RES_SCHEDULER as the last one; internal resources, of which that of task 3 has its base priority as ceiling.
func ordinary() api.Tables {
	return fitted(api.Tables{
		Uses: api.UseSchedule,
		Tasks: []api.TaskRow{
			{Priority: 0, Internal: -1, Own: []int{0, 1, 6}},
			{Priority: 1, Internal: 4, Own: []int{0, 1, 3, 6}},
			{Priority: 5, Internal: -1, Own: []int{1, 6}},
			{Priority: 4, Internal: 4, Own: []int{6}},
			{Priority: 4, Internal: 127, Own: []int{0, 1, 6}},
		},
		Resources: []api.ResourceRow{{Ceiling: 70}, {Ceiling: 5}, {Internal: true, Ceiling: 4}, {Ceiling: 1}, {Ceiling: -1}, {Ceiling: 80}, {Ceiling: 5}},
		Isrs: []api.IsrRow{
			{Category: 2, Priority: 70, Own: []int{0, 5}},
			{Category: 1, Priority: 90},
			{Category: 2, Priority: 80, Own: []int{5}},
			{Category: 2, Priority: 64},
		},
	})
}

// copied are the same tables in memory of their own.
func copied(x api.Tables) api.Tables {
	x.Tasks, x.Rings, x.Resources, x.Isrs = slices.Clone(x.Tasks), slices.Clone(x.Rings), slices.Clone(x.Resources), slices.Clone(x.Isrs)
	for i := range x.Tasks {
		x.Tasks[i].Own = slices.Clone(x.Tasks[i].Own)
	}
	for i := range x.Isrs {
		x.Isrs[i].Own = slices.Clone(x.Isrs[i].Own)
	}
	return x
}

func made(t *testing.T, x api.Tables) *lock.Lock {
	t.Helper()
	l, e := lock.New(x)
	if e != api.OK || l == nil {
		t.Fatalf("New: %v, %d; Check: %d", l, e, table.Check(x))
	}
	return l
}

func gets(t *testing.T, l *lock.Lock, o api.Owner, r int, want api.Status) {
	t.Helper()
	if s := l.Get(o, r); s != want {
		t.Fatalf("Get(%v, %d): %d, not %d", o, r, s, want)
	}
}

func releases(t *testing.T, l *lock.Lock, o api.Owner, r int, want api.Status) {
	t.Helper()
	if s := l.Release(o, r); s != want {
		t.Fatalf("Release(%v, %d): %d, not %d", o, r, s, want)
	}
}

// drops: last below 0 stands for nothing that was held.
func drops(t *testing.T, l *lock.Lock, o api.Owner, last int) {
	t.Helper()
	if r, held := l.Drop(o); r != last || held != (last >= 0) {
		t.Fatalf("Drop(%v): %d %v, not %d", o, r, held, last)
	}
}

func holds(t *testing.T, l *lock.Lock, o api.Owner, want ...int) {
	t.Helper()
	if h := l.Held(o); !slices.Equal(h, want) {
		t.Fatalf("Held(%v): %v, not %v", o, h, want)
	}
}

func heldBy(t *testing.T, l *lock.Lock, r int, want api.Owner) {
	t.Helper()
	if o, held := l.Holder(r); o != want || !held {
		t.Fatalf("Holder(%d): %v %v, not %v", r, o, held, want)
	}
}

func free(t *testing.T, l *lock.Lock, r int) {
	t.Helper()
	if o, held := l.Holder(r); o != (api.Owner{}) || held {
		t.Fatalf("Holder(%d): %v %v, not nobody", r, o, held)
	}
}

func runsAt(t *testing.T, l *lock.Lock, o api.Owner, want int) {
	t.Helper()
	if p := l.Priority(o); p != want {
		t.Fatalf("Priority(%v): %d, not %d", o, p, want)
	}
}

func has(t *testing.T, l *lock.Lock, n int, want bool) {
	t.Helper()
	if h := l.Has(n); h != want {
		t.Fatalf("Has(%d): %v", n, h)
	}
}

func answers(t *testing.T, what string, e, want api.Errno) {
	t.Helper()
	if e != want {
		t.Fatalf("%q: %d, not %d", what, e, want)
	}
}

func gate(t *testing.T, l *lock.Lock, want api.Gate) {
	t.Helper()
	if g := l.Gate(); g != want {
		t.Fatalf("Gate: %v, not %v", g, want)
	}
}

func takes(t *testing.T, l *lock.Lock, n int, want bool) {
	t.Helper()
	if x := l.Takes(n); x != want {
		t.Fatalf("Takes(%d): %v at %v", n, x, l.Gate())
	}
}

// chance gives numbers that are the same in each run.
type chance uint64

func (c *chance) below(n int) int {
	*c = *c*6364136223846793005 + 1442695040888963407
	return int(uint64(*c>>33) % uint64(n))
}

// some are those of n numbers, rising, to which a function does not object, but for a few.
func (c *chance) some(n int, fits func(id int) bool) []int {
	var l []int
	for id := range n {
		if fits(id) && c.below(4) > 0 {
			l = append(l, id)
		}
	}
	return l
}

// tables are made by chance, with ceilings that need not be the least that may be.
func (c *chance) tables() api.Tables {
	var x api.Tables
	for range c.below(7) {
		x.Resources = append(x.Resources, api.ResourceRow{Internal: c.below(5) == 0, Ceiling: []int{-1, 0, 2, 63, 64, 90, 127}[c.below(7)]})
	}
	own := func(priority int) []int {
		return c.some(len(x.Resources), func(id int) bool {
			return !x.Resources[id].Internal && x.Resources[id].Ceiling >= priority
		})
	}
	for range 1 + c.below(4) {
		row := api.TaskRow{Priority: []int{0, 1, 2, 63}[c.below(4)], Internal: -1}
		if c.below(2) == 0 {
			row.Internal = row.Priority + c.below(128-row.Priority)
		}
		row.Own = own(row.Priority)
		x.Tasks = append(x.Tasks, row)
	}
	for i := range c.below(4) {
		row := api.IsrRow{Category: 1 + c.below(2), Priority: 64 + i}
		if row.Category == 1 {
			row.Priority += 60
		} else {
			row.Own = own(row.Priority)
		}
		x.Isrs = append(x.Isrs, row)
	}
	return fitted(x)
}
