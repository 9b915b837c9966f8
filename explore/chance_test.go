package explore_test

import (
	"slices"
	"testing"

	"tappet/api"
	"tappet/explore"
)

// chance gives numbers that are the same in each run.
type chance uint64

func (c *chance) below(n int) int {
	*c = *c*6364136223846793005 + 1442695040888963407
	return int(uint64(*c>>33) % uint64(n))
}

func (c *chance) one(n int) bool { return c.below(n) == 0 }

func pick[T any](c *chance, l ...T) T { return l[c.below(len(l))] }

// own are resources that one of a priority may have.
func (c *chance) own(rows []api.ResourceRow, priority int) []int {
	var l []int
	for id, r := range rows {
		if !r.Internal && r.Ceiling >= priority && !c.one(3) {
			l = append(l, id)
		}
	}
	return l
}

// tables are made by chance.
func (c *chance) tables() api.Tables {
	x := api.Tables{Uses: pick(c, 0, 0, api.UseError, api.UseError, 127, c.below(128)), Modes: 1 + c.below(2)}
	for range c.below(4) {
		x.Resources = append(x.Resources, api.ResourceRow{Internal: c.one(5), Ceiling: pick(c, 1, 2, 3, 66, 100)})
	}
	for range 1 + c.below(4) {
		row := api.TaskRow{Priority: c.below(4), Full: !c.one(3), Internal: -1, Auto: uint32(c.below(1 << x.Modes))}
		if c.one(3) {
			row.Mask = uint32(1 + c.below(3))
		} else {
			row.Limit = 1 + c.below(3)
		}
		if c.one(4) {
			row.Internal = row.Priority + c.below(3)
		}
		row.Own = c.own(x.Resources, row.Priority)
		x.Tasks = append(x.Tasks, row)
	}
	x.Tasks[0].Auto = 1<<x.Modes - 1
	for range c.below(3) {
		x.Counters = append(x.Counters, api.CounterRow{Max: uint32(1 + c.below(4)), Base: 1, Min: 1})
	}
	for range c.below(4) {
		if len(x.Counters) > 0 {
			x.Alarms = append(x.Alarms, c.alarm(x))
		}
	}
	for n := range c.below(3) {
		row := api.IsrRow{Category: 2, Priority: 66 + n, Own: c.own(x.Resources, 66+n)}
		if n == 1 && c.one(2) {
			row = api.IsrRow{Category: 1, Priority: 90}
		}
		x.Isrs = append(x.Isrs, row)
	}
	return fitted(x)
}

func (c *chance) alarm(x api.Tables) api.AlarmRow {
	a := api.AlarmRow{Counter: c.below(len(x.Counters)), Action: api.ActionRow{Kind: api.ActTask, Task: c.below(len(x.Tasks))}}
	switch mask := x.Tasks[a.Action.Task].Mask; {
	case c.one(3):
		a.Action = api.ActionRow{Kind: api.ActCallback}
	case mask != 0 && c.one(2):
		a.Action.Kind, a.Action.Mask = api.ActEvent, mask
	}
	if a.Auto = uint32(c.below(1 << x.Modes)); a.Auto != 0 {
		a.Time, a.Cycle = 1, uint32(c.below(2))
	}
	return a
}

// step is one by chance, most of the time one that gets on.
func (c *chance) step(x api.Tables) api.Step {
	task, resource, alarm := uint32(c.below(len(x.Tasks)+1)), uint32(c.below(len(x.Resources)+1)), uint32(c.below(len(x.Alarms)+1))
	switch c.below(13) {
	case 0:
		return tick(c.below(len(x.Counters) + 1))
	case 1, 2:
		return irq(c.below(len(x.Isrs) + 1))
	case 3:
		return ret()
	case 4:
		return api.Step{Kind: api.StepKind(c.below(9) - 1), ID: c.below(3), Service: c.below(50)}
	case 5, 6:
		return call(api.SvActivateTask, task)
	case 7:
		return pick(c, terminate, call(api.SvChainTask, task))
	case 8:
		return pick(c, call(api.SvGetResource, resource), call(api.SvReleaseResource, resource))
	case 9:
		return pick(c, call(api.SvSetEvent, task, 1), call(api.SvWaitEvent, uint32(c.below(4))))
	case 10:
		return call(api.SvSetRelAlarm, alarm, 1, uint32(c.below(2)))
	case 11:
		return call(10 + c.below(6))
	}
	return call(1+c.below(26), uint32(c.below(3)), uint32(c.below(3)), uint32(c.below(3)))
}

// search is one of at most so many scripts.
func (c *chance) search(x api.Tables, most int) api.Search {
	s := api.Search{Mode: c.below(x.Modes), Workers: 1 + c.below(16)}
	for range 1 + c.below(pick(c, 2, 4, 16)) {
		s.Steps = append(s.Steps, c.step(x))
	}
	if c.one(4) {
		s.Steps = append(s.Steps, s.Steps[c.below(len(s.Steps))])[:min(len(s.Steps)+1, api.MaxAlphabet)]
	}
	for all, long := 1, len(s.Steps); all+long <= most && s.Length < api.MaxLength && !c.one(20); s.Length++ {
		all, long = all+long, long*len(s.Steps)
	}
	return s
}

// P28.2 to P28.4 of searches by chance: all that is told is what the second reading tells.
func TestChance(t *testing.T) {
	c := chance(1)
	var found, none, behind, idle, statuses int
	all := goals()
	for range 300 {
		x := c.tables()
		s := c.search(x, 200)
		mustBe(t, "by chance", x)
		ran := allOf(x, s)
		v, e := explore.Look(x, s)
		if want := surveyOf(x, s, ran); e != api.OK || !alike(v, want) {
			t.Fatalf("Look: %+v, %d, not %+v: %+v of %s", v, e, want, s, short(x))
		}
		idle, statuses = idle+v.Idle, statuses+len(v.Status)
		for range 10 {
			g := all[c.below(len(all))]
			l, ok, e := explore.Find(x, s, g)
			want, there := foundOf(ran, g)
			if e != api.OK || ok != there || !slices.Equal(l, want) {
				t.Fatalf("Find(%+v): %+v, %v, %d, not %+v: %+v of %s", g, l, ok, e, want, s, short(x))
			}
			switch {
			case !ok:
				none++
			case len(l) == 0:
				found++
			default:
				behind++
			}
		}
	}
	if found < 200 || none < 1500 || behind < 100 || idle < 2000 || statuses < 600 {
		t.Error("too little of something:", found, none, behind, idle, statuses)
	}
}

// P28.1: searches that were spoilt by chance.
func TestSpoilt(t *testing.T) {
	c := chance(2)
	counts := map[api.Errno]int{}
	for range 3000 {
		x := c.tables()
		s := c.search(x, 50)
		for range 1 + c.below(2) {
			c.spoil(&x, &s)
		}
		want := errorOf(x, s)
		counts[want]++
		answers(t, short(s)+" of "+short(x), x, s, want)
	}
	if counts[api.OK] < 200 || counts[api.ErrSearch] < 500 || counts[api.ErrWide] < 50 {
		t.Error("too little of something:", counts)
	}
}

func (c *chance) spoil(x *api.Tables, s *api.Search) {
	switch c.below(6) {
	case 0:
		s.Mode = pick(c, c.below(5)-1, farOff[c.below(len(farOff))])
	case 1:
		s.Length = pick(c, c.below(15)-1, farOff[c.below(len(farOff))])
	case 2:
		s.Workers = pick(c, c.below(19)-1, farOff[c.below(len(farOff))])
	case 3:
		s.Steps = slices.Repeat(s.Steps, c.below(4))
	case 4:
		x.Modes = c.below(11) - 1
	case 5:
		*pick(c, &x.Depth, &x.Frames, &x.Errors, &x.Callbacks, &x.Rings[0].Capacity, &x.Tasks[0].Ring) += c.below(3) - 1
	}
}
