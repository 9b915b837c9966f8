package bound_test

import (
	"math"
	"slices"
	"testing"

	"tappet/api"
	"tappet/bound"
)

// P27.1: a configuration that may not be is told first, whatever the figures.
func TestNoConfiguration(t *testing.T) {
	for _, turn := range []func(c *api.Config){
		func(c *api.Config) { *c = api.Config{} },
		func(c *api.Config) { c.CPU = "" },
		func(c *api.Config) { c.OS.Name = "1" },
		func(c *api.Config) { c.Modes = nil },
		func(c *api.Config) { c.Tasks = nil },
		func(c *api.Config) { c.Tasks[1].Priority = 64 },
		func(c *api.Config) { c.Tasks[1].Name = "a" },
		func(c *api.Config) { c.Tasks[1].Resources = []int{2, 1} },
		func(c *api.Config) { c.Tasks[1].Resources = []int{2, 6} },
		func(c *api.Config) { c.Tasks[1].Resources = []int{7} },
		func(c *api.Config) { c.Resources[1].Link = 2 },
		func(c *api.Config) { c.Resources[1].Link = 1 },
		func(c *api.Config) { c.Isrs[1].Priority = 65 },
		func(c *api.Config) { c.Isrs[0].Resources = []int{2} },
		func(c *api.Config) { c.Tasks = append(c.Tasks, c.Tasks...) },
		func(c *api.Config) { c.Messages = []api.Message{{Name: "m"}} },
		func(c *api.Config) { c.Alarms = []api.Alarm{{Name: "m"}} },
	} {
		c, f := small()
		turn(&c)
		for _, g := range []api.Figures{f, {}, {Work: []uint64{0}}, {Sections: []api.Section{{Task: 9}}}} {
			checks(t, "may not be", c, g, api.ErrArg)
		}
	}
	checks(t, "nothing at all", api.Config{}, api.Figures{}, api.ErrArg)
}

// lists are all lists of times.
func lists(f *api.Figures) []*[]uint64 {
	return []*[]uint64{&f.Work, &f.Period, &f.IsrWork, &f.IsrEvery}
}

// P27.1: as many numbers as there are tasks, and ISRs, in each list alone.
func TestHowManyTimes(t *testing.T) {
	takes(t, "small", func(*api.Figures) {})
	for i := range 4 {
		refuses(t, "one less", func(f *api.Figures) { l := lists(f)[i]; *l = (*l)[1:] })
		refuses(t, "one more", func(f *api.Figures) { l := lists(f)[i]; *l = append(*l, 1) })
		refuses(t, "none", func(f *api.Figures) { *lists(f)[i] = nil })
	}
	refuses(t, "none at all", func(f *api.Figures) { *f = api.Figures{} })
	refuses(t, "one more each", func(f *api.Figures) {
		for _, l := range lists(f) {
			*l = append(*l, 1)
		}
	})
	refuses(t, "as many as ISRs, as tasks", func(f *api.Figures) {
		f.Work, f.Period, f.IsrWork, f.IsrEvery, f.Sections = f.IsrEvery, f.IsrEvery, f.Work, f.Work, nil
	})
	c, f := example()
	f.IsrWork, f.IsrEvery = []uint64{}, []uint64{}
	checks(t, "no ISRs", c, f, api.OK)
	f.IsrWork, f.IsrEvery = []uint64{1}, []uint64{1}
	checks(t, "of an ISR that there is not", c, f, api.ErrFigures)
	f.IsrWork, f.IsrEvery = nil, []uint64{1}
	checks(t, "of an ISR that there is not", c, f, api.ErrFigures)
	f.IsrWork, f.IsrEvery = []uint64{0}, nil
	checks(t, "of an ISR that there is not", c, f, api.ErrFigures)
}

// P27.1: each time of each list at its edges.
func TestTimes(t *testing.T) {
	for i := range 4 {
		_, f := small()
		for at := range *lists(&f)[i] {
			set := func(n uint64) func(f *api.Figures) {
				return func(f *api.Figures) { f.Sections = nil; (*lists(f)[i])[at] = n }
			}
			for _, n := range []uint64{1, 2, 1000000, 1000001, 2147483646, 2147483647} {
				takes(t, "a time", set(n))
			}
			for _, n := range []uint64{2147483648, 2147483649, 1<<32 - 1, 1 << 32, 1<<32 + 1, 1 << 63, math.MaxUint64} {
				refuses(t, "too great", set(n))
			}
			if i == 2 {
				takes(t, "an ISR without work", set(0))
			} else {
				refuses(t, "no time", set(0))
			}
		}
	}
}

// P27.1: each task with each resource, and such as there are not.
func TestSections(t *testing.T) {
	c, f := small()
	tasks := []int{-1, 0, 1, 2, 3, 4, 5, math.MaxInt, math.MinInt, 1 << 32}
	resources := []int{-1, 0, 1, 2, 3, 4, 5, 6, 7, 8, 63, 64, 1 << 32, math.MaxInt, math.MinInt}
	may := [][2]int{{0, 0}, {0, 3}, {0, 4}, {1, 1}, {4, 4}}
	for _, schedule := range []bool{true, false} {
		c.OS.Schedule = schedule
		for _, task := range tasks {
			for _, r := range resources {
				want := api.ErrFigures
				if slices.Contains(may, [2]int{task, r}) || schedule && r == 7 && task >= 0 && task < 5 {
					want = api.OK
				}
				for _, ahead := range [][]api.Section{nil, {{Task: 0, Resource: 0, Length: 1}}, {{Task: 0, Resource: 3}, {Task: 1, Resource: 1, Length: 11}}} {
					f.Sections = append(slices.Clone(ahead), api.Section{Task: task, Resource: r})
					checks(t, "a section", c, f, want)
					f.Sections = append([]api.Section{{Task: task, Resource: r}}, ahead...)
					checks(t, "a section", c, f, want)
				}
			}
		}
	}
	// Without resources RES_SCHEDULER is 0.
	c, f = example()
	f.Sections = []api.Section{{Task: 2, Resource: 0, Length: 1}}
	checks(t, "no resources", c, f, api.ErrFigures)
	c.OS.Schedule = true
	checks(t, "RES_SCHEDULER alone", c, f, api.OK)
}

// P27.1: a section is as long as its own task's work, at most; there may be several of a task with a resource.
func TestLengths(t *testing.T) {
	_, small := small()
	for task, r := range []int{4, 1, 7, 7, 4} {
		work := small.Work[task]
		with := func(l ...uint64) func(f *api.Figures) {
			return func(f *api.Figures) {
				for _, n := range l {
					f.Sections = append(f.Sections, api.Section{Task: task, Resource: r, Length: n})
				}
			}
		}
		takes(t, "short", with(0, 1, work-1, work))
		takes(t, "more than the work together", with(work, work, work))
		for _, n := range []uint64{work + 1, work + 2, 1 << 31, 1<<32 + 1, math.MaxUint64} {
			refuses(t, "long", with(n))
			refuses(t, "long", with(0, n, 1))
		}
	}
	takes(t, "as long as may be", func(f *api.Figures) { f.Work[0], f.Sections[0].Length = api.MaxTick, api.MaxTick })
	refuses(t, "longer", func(f *api.Figures) { f.Work[0], f.Sections[0].Length = api.MaxTick, api.MaxTick+1 })
	takes(t, "none", func(f *api.Figures) { f.Sections = nil })
	takes(t, "none", func(f *api.Figures) { f.Sections = []api.Section{} })
	takes(t, "very many", func(f *api.Figures) { f.Sections = slices.Repeat(f.Sections, 10000) })
	refuses(t, "very many", func(f *api.Figures) {
		f.Sections = append(slices.Repeat(f.Sections, 10000), api.Section{Task: 2, Resource: 0})
	})
}

// P27.2 to P27.4: such tasks as there are not, behind figures that may be.
func TestNoTask(t *testing.T) {
	c, f := small()
	for _, task := range append([]int{5, 6}, farOff...) {
		if n, e := bound.Blocked(c, f, task); e != api.ErrArg || n != 0 {
			t.Errorf("Blocked(%d): %d, %d", task, n, e)
		}
		for _, limit := range []uint64{0, 100, api.MaxLimit, api.MaxLimit + 1} {
			if r, e := bound.Reckon(c, f, task, limit); e != api.ErrArg || r != (api.Reply{}) {
				t.Errorf("Reckon(%d, %d): %+v, %d", task, limit, r, e)
			}
		}
	}
}

// P27.3, P27.4: limits that are too great, or not as many as tasks.
func TestLimits(t *testing.T) {
	c, f := small()
	for _, limit := range []uint64{1000001, 1 << 20, 1 << 31, 1 << 32, 1<<32 + 5, math.MaxUint64} {
		for task := range c.Tasks {
			if r, e := bound.Reckon(c, f, task, limit); e != api.ErrArg || r != (api.Reply{}) {
				t.Errorf("Reckon(%d, %d): %+v, %d", task, limit, r, e)
			}
			limits := []uint64{100, 100, 100, 100, 100}
			limits[task] = limit
			if l, e := bound.All(c, f, limits); e != api.ErrArg || len(l) != 0 {
				t.Errorf("All, %d of %d: %+v, %d", limit, task, l, e)
			}
		}
	}
	for task := range c.Tasks {
		if r, e := bound.Reckon(c, f, task, 1000000); e != api.OK || !r.Meets {
			t.Errorf("Reckon(%d), the greatest limit: %+v, %d", task, r, e)
		}
	}
	for n := range 12 {
		l, e := bound.All(c, f, slices.Repeat([]uint64{1000000}, n))
		if n == 5 && (e != api.OK || len(l) != 5) || n != 5 && (e != api.ErrArg || len(l) != 0) {
			t.Errorf("All of %d limits: %+v, %d", n, l, e)
		}
	}
}
