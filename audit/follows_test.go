package audit_test

import (
	"slices"
	"testing"

	"tappet/api"
	"tappet/audit"
	"tappet/com"
	"tappet/table"
)

// nodeOf is a node of a configuration, off.
func nodeOf(t *testing.T, x api.Config) *com.Node {
	t.Helper()
	tables, e := table.Make(x)
	if e != api.OK {
		t.Fatal("Make:", e)
	}
	n, e := com.New(tables)
	if e != api.OK {
		t.Fatal("New:", e)
	}
	return n
}

// run goes by chance over a node.
func (c *chance) run(x api.Config, n *com.Node, most int) api.Trace {
	var r api.Trace
	for range c.below(most + 1) {
		s := c.step(x, n.Look())
		r.Entries = append(r.Entries, api.Traced{Step: s, Answer: n.Step(s)})
	}
	return r
}

// clean: P26.5 of one trace.
func clean(t *testing.T, x api.Config, r api.Trace) []api.Window {
	t.Helper()
	if l := checked(t, x, r); len(l) > 0 {
		t.Fatalf("found: %q in %s of %s", told(l), short(r.Entries), short(x))
	}
	windows, _ := audit.Windows(x, r)
	from := 0
	for _, w := range windows {
		if w.To >= 0 && w.Blocked+w.Above+w.Other != w.To-w.From {
			t.Fatalf("%+v: not together its length", w)
		}
		if w.From < from || w.From >= len(r.Entries) || w.To >= len(r.Entries) || w.To >= 0 && w.To < w.From || (w.Lower < 0) != (w.Blocked == 0) {
			t.Fatalf("%+v", w)
		}
		from = w.From
	}
	return windows
}

// P26.5: what a node was asked and answered, whatever the script; and of each task as many windows are open as it has activations, but for the one that runs.
func TestNodes(t *testing.T) {
	c := chance(1)
	met := map[string]int{}
	for range 6000 {
		x := c.config()
		n := nodeOf(t, x)
		r := c.run(x, n, 250)
		windows := clean(t, x, r)
		for _, w := range windows {
			switch {
			case w.To < 0:
				met["open"]++
			case w.Blocked > 0 && w.Above > 0 && w.Other > 0:
				met["all"]++
			case w.To > w.From:
				met["waited"]++
			}
		}
		l := n.Look()
		if l.Phase != api.Up {
			continue
		}
		for id, task := range l.Tasks {
			open := 0
			for _, w := range windows {
				if w.Task == id && w.To < 0 {
					open++
				}
			}
			if open != task.Active && open+1 != task.Active {
				t.Fatalf("task %d: %d windows of %+v, in %s", id, open, task, short(r.Entries))
			}
		}
	}
	if met["open"] < 500 || met["all"] < 30 || met["waited"] < 500 {
		t.Error("met:", met)
	}
}

// P26.5: what trace.Record makes, messages' services among the steps.
func TestRecords(t *testing.T) {
	c := chance(2)
	for range 400 {
		x := c.config()
		var steps []api.Step
		for _, e := range c.run(x, nodeOf(t, x), 250).Entries {
			steps = append(steps, e.Step)
		}
		clean(t, x, recorded(t, x, steps))
	}
}

// P26.5: each beginning of a trace is a trace; what is found of it, and its windows, but for the open ones, are the beginning of the whole's.
func TestBeginnings(t *testing.T) {
	c := chance(3)
	for range 40 {
		x := c.config()
		r := c.run(x, nodeOf(t, x), 80)
		c.spoil(x, &r)
		all := checked(t, x, r)
		for n := range r.Entries {
			l := checked(t, x, api.Trace{Entries: r.Entries[:n]})
			if !slices.Equal(l, all[:len(l)]) || len(l) < len(all) && all[len(l)].Entry < n {
				t.Fatalf("%d entries: %q, of %q", n, told(l), told(all))
			}
		}
	}
}

// spoil turns something of a trace.
func (c *chance) spoil(x api.Config, r *api.Trace) {
	if len(r.Entries) == 0 {
		return
	}
	i := c.below(len(r.Entries))
	e := &r.Entries[i]
	j := c.below(len(r.Entries))
	switch c.below(16) {
	case 14, 15:
		e.Step = call([]int{api.SvGetResource, api.SvReleaseResource}[c.below(2)], uint32(c.below(len(x.Resources)+1)))
		e.Answer = api.Answer{Run: e.Answer.Run}
	case 0, 1:
		e.Answer.Status = []api.Status{api.EOK, api.EOK, api.ELimit, api.EID, api.EAccess, api.EComLimit, api.EComNoMsg, api.EMissingEnd}[c.below(8)]
	case 2:
		e.Answer.Idle = !e.Answer.Idle
	case 3, 4:
		e.Answer.Run = c.frame(x)
	case 5:
		e.Answer.Run = r.Entries[j].Answer.Run
	case 6, 7:
		e.Answer.Expired = c.expired(x, e.Answer.Expired)
	case 8:
		e.Step.A = uint32(c.below(8))
	case 9:
		e.Step.Service = []int{2, 4, 5, 6, 16, 17, 24, 25, 26, 40, 41, 43}[c.below(12)]
	case 10:
		e.Step = api.Step{Kind: api.StepKind(c.below(7)), ID: c.below(4) - 1, Service: e.Step.Service, A: e.Step.A, B: e.Step.B, C: e.Step.C}
	case 11:
		r.Entries[i], r.Entries[j] = r.Entries[j], r.Entries[i]
	case 12:
		r.Entries = slices.Delete(r.Entries, i, i+1)
	case 13:
		r.Entries = slices.Insert(r.Entries, j, *e)
	}
}

func (c *chance) frame(x api.Config) api.Frame {
	switch c.below(6) {
	case 0:
		return none
	case 1, 2:
		return task(c.below(len(x.Tasks)+2) - 1)
	case 3:
		return isr(c.below(len(x.Isrs)+2) - 1)
	}
	return api.Frame{Kind: api.FrameKind(c.below(12) - 2), ID: c.below(3)}
}

// expired is a list with something more, or less.
func (c *chance) expired(x api.Config, l []int) []int {
	l = slices.Clone(l)
	if len(l) > 0 && c.one(2) {
		return slices.Delete(l, 0, 1)
	}
	for range 1 + c.below(3) {
		l = slices.Insert(l, c.below(len(l)+1), c.below(len(x.Alarms)+3)-1)
	}
	return l
}

// P26.1 to P26.3: traces with a few things turned, against the second reading.
func TestSpoilt(t *testing.T) {
	c := chance(4)
	met := map[api.FindingKind]int{}
	for range 4000 {
		x := c.config()
		if c.one(4) {
			x = small()
		}
		r := c.run(x, nodeOf(t, x), 150)
		for range 4 {
			for range 1 + c.below(8) {
				c.spoil(x, &r)
			}
			for _, f := range checked(t, x, r) {
				met[f.Kind]++
			}
		}
	}
	for kind := api.FindLimit; kind <= api.FindIdle; kind++ {
		if met[kind] < 300 {
			t.Errorf("kind %d: met %d times", kind, met[kind])
		}
	}
}

// P26.1 to P26.3: traces that are nothing but chance.
func TestWild(t *testing.T) {
	c := chance(5)
	for range 3000 {
		x := small()
		if c.one(3) {
			x = c.config()
		}
		var r api.Trace
		for range c.below(60) {
			s := c.params(x, api.Look{}, []int{2, 4, 4, 5, 6, 16, 16, 17, 24, 25, 26, 40, 40, 41, 43}[c.below(15)])
			switch c.below(5) {
			case 0:
				s = tick(c.below(len(x.Counters)+2) - 1)
			case 1:
				s = ret()
			}
			if c.one(20) {
				s = start(c.below(3))
			}
			a := api.Answer{Idle: c.one(10), Run: c.frame(x)}
			if c.one(6) {
				a.Status = []api.Status{api.ELimit, api.EComLimit, api.EMissingEnd}[c.below(3)]
			}
			if s.Kind == api.STick || c.one(20) {
				a.Expired = c.expired(x, nil)
			}
			r.Entries = append(r.Entries, api.Traced{Step: s, Answer: a})
		}
		checked(t, x, r)
	}
}
