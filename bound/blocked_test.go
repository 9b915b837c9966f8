package bound_test

import (
	"testing"

	"tappet/api"
)

// P27.2: the small configuration. By 0 through its section with 0, of ceiling 3, and by 1 with its internal resource, of ceiling 4, which stands below 4 alone.
func TestBlocked(t *testing.T) {
	c, f := small()
	blocks(t, "small", c, f, 0, 5, 5, 0, 11)
	f.Sections = nil
	blocks(t, "no sections", c, f, 0, 0, 0, 0, 11)
}

// P27.2: one section of one task, with resources of several ceilings: nobody is blocked but those between.
func TestBlockedBySections(t *testing.T) {
	c, f := small()
	with := func(l ...api.Section) api.Figures {
		g := f
		g.Sections = l
		return g
	}
	blocks(t, "up to the ceiling", c, with(api.Section{Task: 0, Resource: 0, Length: 9}), 0, 9, 9, 0, 11)
	blocks(t, "up to a higher one", c, with(api.Section{Task: 0, Resource: 4, Length: 9}), 0, 9, 9, 0, 11)
	blocks(t, "longer than others' works", c, with(api.Section{Task: 0, Resource: 4, Length: 20}), 0, 20, 20, 0, 20)
	blocks(t, "an ISR's, too", c, with(api.Section{Task: 0, Resource: 3, Length: 4}), 0, 4, 4, 4, 11)
	blocks(t, "of another in between", c, with(api.Section{Task: 4, Resource: 4, Length: 6}), 0, 0, 0, 0, 11)
	blocks(t, "RES_SCHEDULER", c, with(api.Section{Task: 0, Resource: 7, Length: 4}), 0, 4, 4, 4, 11)
	blocks(t, "RES_SCHEDULER of one in between", c, with(api.Section{Task: 4, Resource: 7, Length: 6}), 0, 0, 0, 6, 11)
	blocks(t, "RES_SCHEDULER of the highest", c, with(api.Section{Task: 3, Resource: 7, Length: 3}), 0, 0, 0, 0, 11)
	blocks(t, "of one priority", c, with(api.Section{Task: 2, Resource: 7, Length: 12}), 0, 0, 0, 12, 12)
	blocks(t, "of no length", c, with(api.Section{Task: 0, Resource: 7}), 0, 0, 0, 0, 11)
	blocks(t, "the greatest of several", c, with(api.Section{Task: 0, Resource: 0, Length: 2}, api.Section{Task: 0, Resource: 0, Length: 8}, api.Section{Task: 0, Resource: 0, Length: 3}, api.Section{Task: 2, Resource: 7, Length: 1}), 0, 8, 8, 1, 11)
}

// P27.2: resources that are one have one ceiling, whichever of them a section names.
func TestBlockedByLinked(t *testing.T) {
	c, f := small()
	c.Tasks[0].Resources = []int{1}
	c.Tasks[1].Resources = []int{0}
	f.Sections = []api.Section{{Task: 0, Resource: 1, Length: 5}}
	blocks(t, "linked", c, f, 0, 5, 5, 0, 0)
	c.Resources[3] = api.Resource{Name: "u", Kind: api.ResLinked, Link: 1}
	blocks(t, "linked to a linked one that an ISR uses", c, f, 0, 5, 5, 5, 5)
	c.Isrs[0].Resources = nil
	c.Tasks[3].Resources = []int{3}
	blocks(t, "that the highest uses", c, f, 0, 5, 5, 5, 5)
	c.Tasks[3].Resources = nil
	blocks(t, "that nobody else uses", c, f, 0, 5, 5, 0, 0)
	c.Tasks[1].Resources = nil
	blocks(t, "alone", c, f, 0, 0, 0, 0, 0)
}

// P27.2: an internal resource counts by the whole work of whoever has it, up to its ceiling.
func TestBlockedByInternal(t *testing.T) {
	c, f := small()
	f.Sections = nil
	c.Tasks[0].Resources = []int{2}
	blocks(t, "of the lowest, too", c, f, 0, 20, 20, 0, 20)
	c.Tasks[4].Resources = nil
	blocks(t, "the highest that has it", c, f, 0, 20, 20, 0, 0)
	c.Tasks[1].Resources = nil
	blocks(t, "the lowest alone", c, f, 0, 0, 0, 0, 0)
	c.Tasks[0].Resources, c.Tasks[2].Resources = []int{6}, []int{2}
	blocks(t, "of the highest", c, f, 0, 20, 20, 20, 20)
	c.Tasks[3].Resources = nil
	blocks(t, "other ones each", c, f, 0, 0, 0, 0, 0)
	// Those that are not internal do not count so: they are taken in sections alone.
	c.Tasks[0].Resources, c.Tasks[3].Resources = []int{0, 3, 4}, []int{0, 3, 4}
	blocks(t, "taken by calls", c, f, 0, 0, 0, 0, 0)
}

// P27.2: one that is not preempted blocks all above it, and nobody else.
func TestBlockedByNotPreempted(t *testing.T) {
	for task, want := range [][]uint64{
		{0, 20, 20, 20, 20}, {0, 0, 0, 11, 11}, {0, 0, 0, 12, 12}, {0, 0, 0, 0, 0}, {0, 0, 0, 7, 0},
	} {
		c, f := small()
		for id := range c.Tasks {
			c.Tasks[id].Resources = nil
		}
		f.Sections = nil
		c.Tasks[task].Full = false
		blocks(t, "not full", c, f, want...)
	}
	c, f := small()
	for id := range c.Tasks {
		c.Tasks[id].Full = false
	}
	blocks(t, "none is full", c, f, 0, 20, 20, 20, 20)
	f.Work[0] = 9
	blocks(t, "the lowest has less work", c, f, 0, 9, 9, 12, 12)
	f.Work[2] = api.MaxTick
	blocks(t, "as much as may be", c, f, 0, 9, 9, api.MaxTick, api.MaxTick)
	blocks(t, "equal priorities", api.Config{
		CPU: "c", OS: api.Os{Name: "o"}, Modes: []string{"m"},
		Tasks: []api.Task{{Name: "a", Activation: 1}, {Name: "b", Activation: 1}},
	}, api.Figures{Work: []uint64{5, 6}, Period: []uint64{9, 9}}, 0, 0)
}

// P27.2: nobody is blocked by ISRs, by those above, by periods.
func TestNotBlocked(t *testing.T) {
	c, f := small()
	for id := range f.Period {
		f.Period[id] = uint64(1 + id)
	}
	f.IsrWork = []uint64{1000, api.MaxTick}
	f.Work[3] = 1000
	f.Sections = append(f.Sections, api.Section{Task: 3, Resource: 7, Length: 1000})
	blocks(t, "not by these", c, f, 0, 5, 5, 0, 11)
	one := api.Config{CPU: "c", OS: api.Os{Name: "o", Schedule: true}, Modes: []string{"m"}, Tasks: []api.Task{{Name: "a", Activation: 1}}}
	blocks(t, "alone", one, api.Figures{Work: []uint64{5}, Period: []uint64{1}, Sections: []api.Section{{Length: 5}}}, 0)
}
