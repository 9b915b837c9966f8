package core_test

import (
	"math"
	"slices"
	"testing"

	"tappet/api"
	"tappet/core"
	"tappet/table"
)

func task(id int) api.Owner { return api.Owner{ID: id} }

func isr(id int) api.Owner { return api.Owner{Isr: true, ID: id} }

// beyond are numbers of nothing, where there are at most 256 of a kind.
var beyond = []int{-1, -2, -64, -256, 256, 257, 1 << 16, 1 << 32, 1<<32 + 1, math.MaxInt, math.MinInt}

// fitted gives tables the rings of their tasks, and the room that their rows need; a task without a Limit has 1.
func fitted(x api.Tables) api.Tables {
	x.Modes, x.Rings = 1, nil
	for p := api.MaxPriority; p >= 0; p-- {
		ring := api.RingRow{Priority: p}
		for i := range x.Tasks {
			if row := &x.Tasks[i]; row.Priority == p {
				row.Ring, row.Limit = len(x.Rings), max(row.Limit, 1)
				ring.Capacity += row.Limit
			}
		}
		if ring.Capacity > 0 {
			x.Rings = append(x.Rings, ring)
		}
	}
	x.Depth, x.Frames, x.Errors = len(x.Rings), len(x.Isrs)+4, 2
	return x
}

// examples are the tables of the chapter's examples.
func examples() api.Tables {
	return fitted(api.Tables{Tasks: []api.TaskRow{
		{Priority: 1, Full: true, Limit: 2, Internal: -1},
		{Priority: 3, Full: true, Mask: 3, Internal: -1},
		{Priority: 2, Internal: -1},
	}})
}

// small are tables with a task of each kind, of which every state can be gone through: a full basic one started twice, a full extended one, and one that is not full and has an internal resource of the ceiling 2.
func small() api.Tables {
	return fitted(api.Tables{
		Tasks: []api.TaskRow{
			{Priority: 1, Full: true, Limit: 2, Internal: -1, Own: []int{0}},
			{Priority: 2, Full: true, Mask: 3, Internal: -1, Own: []int{0}},
			{Priority: 1, Internal: 2},
		},
		Resources: []api.ResourceRow{{Ceiling: 2}, {Internal: true, Ceiling: 2}},
	})
}

// ordinary are tables with all that tasks may be: several of one priority, basic ones with several activations, extended ones, full ones and others, with internal resources (1 of ceiling 4, that of task 6 of its own priority), with resources that ISRs share; RES_SCHEDULER is the last one.
func ordinary() api.Tables {
	return fitted(api.Tables{
		Uses: api.UseSchedule,
		Tasks: []api.TaskRow{
			{Priority: 1, Full: true, Limit: 3, Internal: -1, Own: []int{0, 2, 4}},
			{Priority: 3, Full: true, Mask: 3, Internal: -1, Own: []int{0, 4}},
			{Priority: 2, Limit: 2, Internal: -1, Own: []int{4}},
			{Priority: 1, Full: true, Limit: 2, Internal: 4, Own: []int{3, 4}},
			{Priority: 5, Full: true, Mask: 1<<31 | 1, Internal: -1, Own: []int{2, 4}},
			{Priority: 2, Mask: 6, Internal: 4, Own: []int{0, 4}},
			{Priority: 4, Full: true, Limit: 1, Internal: 4, Own: []int{4}},
		},
		Resources: []api.ResourceRow{{Ceiling: 3}, {Internal: true, Ceiling: 4}, {Ceiling: 70}, {Ceiling: 1}, {Ceiling: 5}},
		Isrs:      []api.IsrRow{{Category: 2, Priority: 70, Own: []int{2}}, {Category: 1, Priority: 90}},
	})
}

// copied are the same tables in memory of their own.
func copied(x api.Tables) api.Tables {
	x.Tasks, x.Rings, x.Resources, x.Isrs = slices.Clone(x.Tasks), slices.Clone(x.Rings), slices.Clone(x.Resources), slices.Clone(x.Isrs)
	for i := range x.Tasks {
		x.Tasks[i].Own = slices.Clone(x.Tasks[i].Own)
	}
	for i := range x.Isrs {
		x.Isrs[i].Own = slices.Clone(x.Isrs[i].Own)
	}
	return x
}

func made(t *testing.T, x api.Tables) *core.Core {
	t.Helper()
	c, e := core.New(x)
	if e != api.OK || c == nil {
		t.Fatalf("New: %v, %d; Check: %d", c, e, table.Check(x))
	}
	return c
}

// is: a service answers this status.
func is(t *testing.T, what string, s, want api.Status) {
	t.Helper()
	if s != want {
		t.Fatalf("%s: %d, not %d", what, s, want)
	}
}

func activates(t *testing.T, c *core.Core, ids ...int) {
	t.Helper()
	for _, id := range ids {
		is(t, "Activate", c.Activate(id), api.EOK)
	}
}

func runs(t *testing.T, c *core.Core, want int) {
	t.Helper()
	if n, e := c.Run(); n != want || e != api.OK {
		t.Fatalf("Run: %d %d, not %d", n, e, want)
	}
	if n := c.Running(); n != want {
		t.Fatalf("Running: %d, not %d", n, want)
	}
}

func runsNot(t *testing.T, c *core.Core, want api.Errno) {
	t.Helper()
	if n, e := c.Run(); n != -1 || e != want {
		t.Fatalf("Run: %d %d, not -1 %d", n, e, want)
	}
}

func carries(t *testing.T, c *core.Core, want int) {
	t.Helper()
	if n, e := c.Carry(); n != want || e != api.OK {
		t.Fatalf("Carry: %d %d, not %d", n, e, want)
	}
	if c.Running() != -1 || c.Leaving() != api.LeaveNone {
		t.Fatalf("behind Carry: %d runs, the leaving is %d", c.Running(), c.Leaving())
	}
}

func leaves(t *testing.T, c *core.Core, want api.LeaveKind) {
	t.Helper()
	if l := c.Leaving(); l != want {
		t.Fatalf("Leaving: %d, not %d", l, want)
	}
}

func due(t *testing.T, c *core.Core, want bool) {
	t.Helper()
	if d := c.Due(); d != want {
		t.Fatalf("Due: %v", d)
	}
}

// preempts lets the running task be preempted, and another one run.
func preempts(t *testing.T, c *core.Core, from, to int) {
	t.Helper()
	if e := c.Preempt(); e != api.OK {
		t.Fatalf("Preempt: %d", e)
	}
	leaves(t, c, api.LeavePreempt)
	carries(t, c, from)
	runs(t, c, to)
}

func stateOf(t *testing.T, c *core.Core, id int, want api.TaskState) {
	t.Helper()
	if s, e := c.State(id); s != want || e != api.EOK {
		t.Fatalf("State(%d): %d %d, not %d", id, s, e, want)
	}
}

func eventsOf(t *testing.T, c *core.Core, id int, want uint32, status api.Status) {
	t.Helper()
	if m, s := c.GetEvent(id); m != want || s != status {
		t.Fatalf("GetEvent(%d): %d %d, not %d %d", id, m, s, want, status)
	}
}

func ringIs(t *testing.T, c *core.Core, place int, want ...int) {
	t.Helper()
	if r := c.Look().Rings[place]; !slices.Equal(r, want) {
		t.Fatalf("ring %d: %v, not %v", place, r, want)
	}
}

func preemptedAre(t *testing.T, c *core.Core, want ...int) {
	t.Helper()
	if p := c.Look().Preempted; !slices.Equal(p, want) {
		t.Fatalf("preempted: %v, not %v", p, want)
	}
}

// chance gives numbers that are the same in each run.
type chance uint64

func (c *chance) below(n int) int {
	*c = *c*6364136223846793005 + 1442695040888963407
	return int(uint64(*c>>33) % uint64(n))
}

func (c *chance) one(n int) bool { return c.below(n) == 0 }

// own are resources that one of a priority may have.
func (c *chance) own(rows []api.ResourceRow, priority int) []int {
	var l []int
	for id, r := range rows {
		if !r.Internal && r.Ceiling >= priority && !c.one(3) {
			l = append(l, id)
		}
	}
	return l
}

// tables are made by chance; their ceilings are the least that may be, or above.
func (c *chance) tables() api.Tables {
	var x api.Tables
	for range c.below(5) {
		x.Resources = append(x.Resources, api.ResourceRow{Internal: c.one(5), Ceiling: []int{-1, 0, 2, 3, 63, 64, 90}[c.below(7)]})
	}
	for range 1 + c.below(6) {
		row := api.TaskRow{Priority: []int{0, 1, 2, 3, 63}[c.below(5)], Full: !c.one(3), Internal: -1}
		if c.one(3) {
			row.Mask = uint32(1 + c.below(7))
		} else {
			row.Limit = 1 + c.below(3)
		}
		if c.one(3) {
			row.Internal = min(row.Priority+c.below(4), api.MaxPriority)
		}
		row.Own = c.own(x.Resources, row.Priority)
		x.Tasks = append(x.Tasks, row)
	}
	if c.one(2) {
		x.Isrs = []api.IsrRow{{Category: 2, Priority: 64, Own: c.own(x.Resources, 64)}}
	}
	return fitted(x)
}
