package bound_test

import (
	"math"
	"slices"
	"testing"

	"tappet/api"
	"tappet/bound"
)

// chance gives numbers that are the same in each run.
type chance uint64

func (c *chance) below(n int) int {
	*c = *c*6364136223846793005 + 1442695040888963407
	return int(uint64(*c>>33) % uint64(n))
}

func (c *chance) one(n int) bool { return c.below(n) == 0 }

func pick[T any](c *chance, l ...T) T { return l[c.below(len(l))] }

// some are some of n numbers, rising, to which a function does not object.
func (c *chance) some(n int, fits func(n int) bool) []int {
	var l []int
	for i := range n {
		if c.one(2) && fits(i) {
			l = append(l, i)
		}
	}
	return l
}

// config is one by chance, that may be: few priorities, so that many are equal.
func (c *chance) config() api.Config {
	x := api.Config{CPU: "c", OS: api.Os{Name: "o", Schedule: c.one(2)}, Modes: []string{"m"}}
	for n := range c.below(7) {
		r := api.Resource{Name: name(n), Kind: pick(c, api.ResStandard, api.ResStandard, api.ResInternal)}
		if n > 0 && c.one(3) && x.Resources[n-1].Kind != api.ResInternal {
			r.Kind, r.Link = api.ResLinked, n-1
		}
		x.Resources = append(x.Resources, r)
	}
	for n := range 1 + c.below(6) {
		row := api.Task{Name: name(n), Priority: pick(c, 0, 1, 2, 3, 4, 63), Full: !c.one(3), Activation: 1 + c.below(3)}
		room := 1
		row.Resources = c.some(len(x.Resources), func(r int) bool {
			if x.Resources[r].Kind == api.ResInternal {
				room--
			}
			return x.Resources[r].Kind != api.ResInternal || room == 0
		})
		x.Tasks = append(x.Tasks, row)
	}
	border := 64 + c.below(9)
	for p := 64; p < 72; p++ {
		if !c.one(4) {
			continue
		}
		row := api.Isr{Name: name(p), Category: 1, Priority: p}
		if p < border {
			row.Category = 2
			row.Resources = c.some(len(x.Resources), func(r int) bool { return x.Resources[r].Kind != api.ResInternal })
		}
		x.Isrs = slices.Insert(x.Isrs, c.below(len(x.Isrs)+1), row)
	}
	return x
}

// scale is how great the figures of a system are: most times are met below some limit.
type scale struct{ work, period int }

func (c *chance) figures(x api.Config, s scale) api.Figures {
	var f api.Figures
	for range x.Tasks {
		f.Work = append(f.Work, uint64(1+c.below(s.work)))
		f.Period = append(f.Period, uint64(1+c.below(s.period)))
	}
	for range x.Isrs {
		f.IsrWork = append(f.IsrWork, uint64(c.below(s.work)))
		f.IsrEvery = append(f.IsrEvery, uint64(1+c.below(s.period)))
	}
	for task := range x.Tasks {
		for _, r := range sectionsOf(x, task) {
			for range c.below(3) {
				f.Sections = append(f.Sections, api.Section{Task: task, Resource: r, Length: uint64(c.below(int(f.Work[task]) + 1))})
			}
		}
	}
	for i := range f.Sections {
		j := c.below(i + 1)
		f.Sections[i], f.Sections[j] = f.Sections[j], f.Sections[i]
	}
	return f
}

// P27.1 to P27.4 of systems by chance: all that is told is what the second reading tells.
func TestChance(t *testing.T) {
	c := chance(1)
	var met, missed, blocked int
	for range 6000 {
		x := c.config()
		f := c.figures(x, pick(&c, scale{4, 60}, scale{2, 9}, scale{12, 12}, scale{1, 6}))
		mustBe(t, "by chance", x)
		if e := bound.Check(x, f); e != api.OK || errorOf(x, f) != api.OK {
			t.Fatalf("Check: %d: %s of %s", e, short(f), short(x))
		}
		limits := make([]uint64, len(x.Tasks))
		for task := range limits {
			limits[task] = uint64(c.below(200))
		}
		all, e := bound.All(x, f, limits)
		if e != api.OK || len(all) != len(limits) {
			t.Fatalf("All: %d, %+v: %s of %s", e, all, short(f), short(x))
		}
		for task, limit := range limits {
			want := replyOf(x, f, task, limit)
			b, e := bound.Blocked(x, f, task)
			r, e2 := bound.Reckon(x, f, task, limit)
			if e != api.OK || e2 != api.OK || b != want.Blocked || r != want || all[task] != want {
				t.Fatalf("of %d, limit %d: %d %d, %d, %+v, %+v, not %+v: %s of %s", task, limit, e, e2, b, r, all[task], want, short(f), short(x))
			}
			if r.Meets {
				met++
			} else {
				missed++
			}
			if b > 0 {
				blocked++
			}
		}
	}
	if met < 5000 || missed < 2000 || blocked < 3000 {
		t.Error("too little of something:", met, missed, blocked)
	}
}

// spoil turns one thing, behind which Check may object.
func (c *chance) spoil(x *api.Config, f *api.Figures) {
	list := lists(f)[c.below(4)]
	switch k := c.below(6); {
	case k == 0 && c.one(4):
		x.Tasks[c.below(len(x.Tasks))].Priority = pick(c, -1, 64)
	case k == 1 && len(*list) > 0:
		(*list)[c.below(len(*list))] = pick(c, 0, 1, 1<<31-1, 1<<31, uint64(math.MaxUint64))
	case k == 2:
		*list = append(*list, 1)[c.below(2)*min(2, len(*list)):]
	case k == 3:
		x.OS.Schedule = !x.OS.Schedule
	case k == 4:
		f.Sections = append(f.Sections, api.Section{Task: c.below(len(x.Tasks)+2) - 1, Resource: c.below(len(x.Resources)+3) - 1, Length: uint64(c.below(4))})
	case len(f.Sections) > 0:
		s := &f.Sections[c.below(len(f.Sections))]
		s.Length = pick(c, 0, 1, 2, 3, 4, uint64(math.MaxUint64))
	}
}

// P27.1: figures that were spoilt by chance.
func TestSpoilt(t *testing.T) {
	c := chance(2)
	counts := map[api.Errno]int{}
	for range 20000 {
		x := c.config()
		f := c.figures(x, scale{4, 9})
		for range 1 + c.below(2) {
			c.spoil(&x, &f)
		}
		want := errorOf(x, f)
		counts[want]++
		if e := bound.Check(x, f); e != want {
			t.Fatalf("Check: %d, not %d: %s of %s", e, want, short(f), short(x))
		}
		if counts[want] < 300 {
			checks(t, "spoilt", x, f, want)
		}
	}
	if len(counts) != 3 || counts[api.OK] < 2000 || counts[api.ErrFigures] < 2000 || counts[api.ErrArg] < 200 {
		t.Error("too little of something:", counts)
	}
}

// P27.3: long times, of systems that are busy nearly all of the time, each time of which is tried.
func TestLongTimes(t *testing.T) {
	c := chance(3)
	var long int
	for range 40 {
		x := alone(1, 1, 2, 3, 2)
		f := times([]uint64{uint64(1 + c.below(9000)), 0, 0, 0}, []uint64{1, 0, 0, 0}, []uint64{uint64(c.below(3))}, []uint64{uint64(20 + c.below(40))})
		for task := 1; task < 4; task++ {
			f.Work[task] = uint64(1 + c.below(700))
			f.Period[task] = f.Work[task]*3 + uint64(c.below(20))
		}
		limit := uint64(api.MaxLimit - c.below(2))
		r, e := bound.Reckon(x, f, 0, limit)
		if want := replyOf(x, f, 0, limit); e != api.OK || r != want {
			t.Errorf("%+v, %d, not %+v: %s", r, e, want, short(f))
		}
		if r.Worst > 20000 {
			long++
		}
	}
	if long < 8 {
		t.Error("few long times:", long)
	}
}
