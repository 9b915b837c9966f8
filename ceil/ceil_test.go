package ceil_test

import (
	"math"
	"reflect"
	"testing"

	"tappet/api"
	"tappet/ceil"
)

// The chapter's first example, P8.2 to P8.4.
func TestFirstExample(t *testing.T) {
	c := example()
	groups(t, "example", c, 0, 0, 1)
	groups(t, "example", c, 1, 0, 1)
	groups(t, "example", c, 2, 2)
	used(t, "example", c, 0, []int{0, 1}, []int{0})
	used(t, "example", c, 1, []int{0, 1}, []int{0})
	used(t, "example", c, 2, []int{2}, nil)
	reckons(t, "example", c, api.Ceils{Resources: []int{70, 70, 2}, Scheduler: 3, Running: []int{1, 3, 3}, Tasks: []int{1, 1, 0}, Isrs: []int{1}})
}

// The chapter's second example, P8.5.
func TestSecondExample(t *testing.T) {
	c := example()
	blocks(t, "example", c, 0, 1, 0)
	blocks(t, "example", c, 1, 0)
	blocks(t, "example", c, 0, 2, 0)
	blocks(t, "example", c, 2, 1)
}

// The chapter's third example, P8.1.
func TestThirdExample(t *testing.T) {
	c := example()
	c.Resources[0] = api.Resource{Kind: linked, Link: 1}
	refused(t, "0 linked to 1 and 1 to 0", c, api.ErrLinks)
	for _, l := range [][]int{{1, 0}, {3}} {
		for i := range 3 {
			c = example()
			c.Tasks[i].Resources = l
			refused(t, "a task", c, api.ErrRefs)
		}
	}
	c = example()
	c.Isrs[0].Resources = []int{2}
	refused(t, "the interrupt with {2}", c, api.ErrInternal)
}

// P8.1: the errors have the numbers that the chapter tells.
func TestNumbersOfErrors(t *testing.T) {
	for e, n := range map[api.Errno]int{api.ErrRefs: 80, api.ErrLinks: 81, api.ErrInternal: 82, api.ErrArg: 2, api.OK: 0} {
		if int(e) != n {
			t.Errorf("%d, not %d", e, n)
		}
	}
}

// P8.2: groups of standard, linked and internal resources.
func TestGroup(t *testing.T) {
	c := whole()
	for _, id := range []int{0, 3, 4, 6} {
		groups(t, "linked", c, id, 0, 3, 4, 6)
	}
	for _, id := range []int{1, 2, 5, 7} {
		groups(t, "alone", c, id, id)
	}
	c = turned(setResource(7, linked, 1))
	groups(t, "linked to one ahead", c, 1, 1, 7)
	groups(t, "linked to one ahead", c, 7, 1, 7)
	groups(t, "another group", c, 6, 0, 3, 4, 6)
	c = turned(setResource(4, linked, 7))
	for _, id := range []int{0, 3, 4, 6, 7} {
		groups(t, "over four", c, id, 0, 3, 4, 6, 7)
	}
	c = turned(setResource(1, linked, 0), setResource(7, linked, 4))
	for _, id := range []int{0, 1, 3, 4, 6, 7} {
		groups(t, "a tree", c, id, 0, 1, 3, 4, 6, 7)
	}
	groups(t, "internal", c, 2, 2)
	c = turned(func(c *api.Config) { c.Resources[1].Link, c.Resources[7].Link, c.Resources[4].Link = 7, 4, 1 })
	groups(t, "links of standard ones", c, 1, 1)
	groups(t, "links of standard ones", c, 7, 7)
	groups(t, "links of standard ones", c, 4, 0, 3, 4, 6)
}

// P8.2, P8.3: there is no such resource.
func TestNoResource(t *testing.T) {
	for _, c := range []api.Config{whole(), example(), {}, {Tasks: []api.Task{{}, {}}, Isrs: []api.Isr{{}}}} {
		n := len(c.Resources)
		for _, id := range []int{-1, -2, n, n + 1, n + 7, math.MinInt, math.MaxInt, 1 << 32, -1 << 32} {
			if l, e := ceil.Group(c, id); e != api.ErrArg || len(l) != 0 {
				t.Errorf("Group(%d): %s %d", id, short(l), e)
			}
			if a, b, e := ceil.Users(c, id); e != api.ErrArg || len(a)+len(b) != 0 {
				t.Errorf("Users(%d): %s %s %d", id, short(a), short(b), e)
			}
		}
	}
}

// P8.3: users of resources that nobody, one, many use, by their own names and through links.
func TestUsers(t *testing.T) {
	c := whole()
	for _, id := range []int{0, 3, 4, 6} {
		used(t, "many", c, id, []int{0, 3, 5}, []int{2})
	}
	used(t, "a task, two interrupts", c, 1, []int{0}, []int{1, 2})
	used(t, "internal", c, 2, []int{0, 2}, nil)
	used(t, "internal", c, 5, []int{1, 3}, nil)
	used(t, "nobody", c, 7, nil, nil)
	c = turned(setTask(4, 7))
	used(t, "one task", c, 7, []int{4}, nil)
	c = turned(setIsr(0, 7))
	used(t, "one interrupt", c, 7, nil, []int{0})
	c = turned(setResource(7, linked, 1))
	used(t, "through a link alone", c, 7, []int{0}, []int{1, 2})
	c = turned(setTask(0), setTask(3, 4), setTask(5), setIsr(2))
	for _, id := range []int{0, 3, 4, 6} {
		used(t, "the one at the end alone", c, id, []int{3}, nil)
	}
	c = turned(setTask(0), setTask(3), setTask(5), setIsr(2, 0))
	for _, id := range []int{0, 3, 4, 6} {
		used(t, "the one at the beginning alone", c, id, nil, []int{2})
	}
	all := turned(func(c *api.Config) {
		for i := range c.Tasks {
			c.Tasks[i].Resources = []int{0, 3, 4, 6}
		}
		for i := range c.Isrs {
			c.Isrs[i].Resources = []int{0, 3, 4, 6}
		}
	})
	used(t, "all, several times each", all, 6, []int{0, 1, 2, 3, 4, 5}, []int{0, 1, 2})
	used(t, "all of another", all, 1, nil, nil)
}

// P8.4: the ordinary.
func TestReckon(t *testing.T) {
	reckons(t, "whole", whole(), api.Ceils{
		Resources: []int{6, 66, 7, 6, 6, 9, 6, -1},
		Scheduler: 9,
		Running:   []int{7, 9, 7, 9, 6, 6},
		Tasks:     []int{4, 1, 1, 2, 1, 3},
		Isrs:      []int{0, 1, 2},
	})
	reckons(t, "without the scheduler as a resource", turned(func(c *api.Config) { c.OS.Schedule = false }), api.Ceils{
		Resources: []int{6, 66, 7, 6, 6, 9, 6, -1},
		Scheduler: 9,
		Running:   []int{7, 9, 7, 9, 6, 6},
		Tasks:     []int{3, 0, 0, 1, 0, 2},
		Isrs:      []int{0, 1, 2},
	})
	reckons(t, "none is full", turned(func(c *api.Config) {
		for i := range c.Tasks {
			c.Tasks[i].Full = false
		}
		c.Tasks[1].Priority = 3
		c.Isrs[2].Priority = 7
	}), api.Ceils{
		Resources: []int{7, 66, 7, 7, 7, 3, 7, -1},
		Scheduler: 7,
		Running:   []int{7, 7, 7, 7, 7, 7},
		Tasks:     []int{4, 1, 1, 2, 1, 3},
		Isrs:      []int{0, 1, 2},
	})
}

// P8.4: without tasks, resources, interrupts.
func TestReckonOfLittle(t *testing.T) {
	reckons(t, "nothing", api.Config{}, api.Ceils{Scheduler: -1})
	reckons(t, "nothing but the scheduler", api.Config{OS: api.Os{Schedule: true}}, api.Ceils{Scheduler: -1})
	reckons(t, "tasks", api.Config{Tasks: []api.Task{{Priority: 2, Full: true}, {Priority: 1}}}, api.Ceils{Scheduler: 2, Running: []int{2, 2}, Tasks: []int{0, 0}})
	reckons(t, "tasks, the scheduler", api.Config{OS: api.Os{Schedule: true}, Tasks: []api.Task{{Priority: 1, Full: true}, {Priority: 2}}}, api.Ceils{Scheduler: 2, Running: []int{1, 2}, Tasks: []int{1, 1}})
	reckons(t, "resources", api.Config{Resources: whole().Resources}, api.Ceils{Scheduler: -1, Resources: []int{-1, -1, -1, -1, -1, -1, -1, -1}})
	reckons(t, "interrupts", api.Config{OS: api.Os{Schedule: true}, Isrs: []api.Isr{{Priority: 9}, {}}}, api.Ceils{Scheduler: -1, Isrs: []int{0, 0}})
	reckons(t, "interrupts and resources", api.Config{Resources: []api.Resource{{Kind: std}, {Kind: linked}, {Kind: std}}, Isrs: []api.Isr{{Priority: 9, Resources: []int{1}}, {Priority: 12, Resources: []int{0, 1}}}}, api.Ceils{Scheduler: -1, Resources: []int{12, 12, -1}, Isrs: []int{1, 2}})
}

// P8.4: -1 is told of a resource without users alone; of a used one the greatest priority counts, whatever it is.
func TestPrioritiesBelowZero(t *testing.T) {
	for _, p := range []int{-1, -2, -3, -100, math.MinInt, math.MinInt + 1} {
		c := api.Config{
			Resources: []api.Resource{{Kind: std}, {Kind: linked}, {Kind: internal}, {Kind: std}},
			Tasks:     []api.Task{{Priority: p, Full: true, Resources: []int{0}}, {Priority: math.MinInt, Resources: []int{2}}},
			Isrs:      []api.Isr{{Priority: math.MinInt, Resources: []int{1}}},
		}
		reckons(t, "below zero", c, api.Ceils{Resources: []int{p, p, math.MinInt, -1}, Scheduler: p, Running: []int{p, p}, Tasks: []int{1, 0}, Isrs: []int{1}})
		c.Isrs[0].Priority, c.Tasks[0].Priority = p, math.MinInt
		reckons(t, "below zero, the interrupt's", c, api.Ceils{Resources: []int{p, p, math.MinInt, -1}, Scheduler: math.MinInt, Running: []int{math.MinInt, math.MinInt}, Tasks: []int{1, 0}, Isrs: []int{1}})
	}
	c := api.Config{Tasks: []api.Task{{Priority: -9}, {Priority: -7, Full: true}, {Priority: -8, Full: true}}}
	reckons(t, "tasks below zero", c, api.Ceils{Scheduler: -7, Running: []int{-7, -7, -8}, Tasks: []int{0, 0, 0}})
}

// P8.4: priorities as great as may be, of tasks above those of interrupts too.
func TestGreatPriorities(t *testing.T) {
	const most = math.MaxInt
	c := example()
	c.Tasks[1].Priority = most
	reckons(t, "a task", c, api.Ceils{Resources: []int{most, most, 2}, Scheduler: most, Running: []int{1, most, most}, Tasks: []int{1, 1, 0}, Isrs: []int{1}})
	c = example()
	c.Isrs[0].Priority = most
	reckons(t, "an interrupt", c, api.Ceils{Resources: []int{most, most, 2}, Scheduler: 3, Running: []int{1, 3, 3}, Tasks: []int{1, 1, 0}, Isrs: []int{1}})
	c.Isrs[0].Priority = 2
	reckons(t, "an interrupt below a task", c, api.Ceils{Resources: []int{3, 3, 2}, Scheduler: 3, Running: []int{1, 3, 3}, Tasks: []int{1, 1, 0}, Isrs: []int{1}})
}

// P8.4, Running: the priority, the internal resource's ceiling and Scheduler, each of them the greatest once; the ceilings of other resources do not count.
func TestRunning(t *testing.T) {
	with := func(full bool, l ...int) api.Config {
		return api.Config{
			Resources: []api.Resource{{Kind: std}, {Kind: internal}, {Kind: internal}, {Kind: linked, Link: 0}},
			Tasks: []api.Task{
				{Priority: 5, Full: full, Resources: l}, {Priority: 8, Full: true, Resources: []int{1}},
				{Priority: 9, Full: true, Resources: []int{0}}, {Priority: 3, Full: true, Resources: []int{2}},
			},
			Isrs: []api.Isr{{Priority: 99, Resources: []int{0}}},
		}
	}
	for _, x := range []struct {
		c    api.Config
		want int
	}{
		{with(true), 5}, {with(true, 1), 8}, {with(true, 2), 5}, {with(true, 0), 5}, {with(true, 0, 2, 3), 5}, {with(true, 0, 1, 3), 8},
		{with(false), 9}, {with(false, 1), 9}, {with(false, 2), 9}, {with(false, 0), 9},
	} {
		if r := reckoned(t, "running", x.c).Running; len(r) != 4 || r[0] != x.want || r[1] != 8 || r[2] != 9 || r[3] != max(3, reckoned(t, "running", x.c).Resources[2]) {
			t.Errorf("Running: %s, not %d first: %s", short(r), x.want, short(x.c))
		}
	}
}

// P8.5: every pair of tasks of an ordinary configuration.
func TestBlocks(t *testing.T) {
	c := whole()
	for low, row := range [][][]int{
		{nil, {1}, {1}, nil, {0, 1, 3}, {0, 1, 3}},
		{nil, nil, nil, nil, nil, nil},
		{nil, nil, nil, nil, nil, nil},
		{{4}, nil, nil, nil, {4}, {4}},
		{nil, nil, nil, nil, nil, nil},
		{nil, nil, nil, nil, nil, nil},
	} {
		for high, want := range row {
			blocks(t, "whole", c, low, high, want...)
		}
	}
}

// P8.5: a ceiling just at, below and above the other's priority; equal priorities; the same task.
func TestBlocksEdges(t *testing.T) {
	for _, base := range []int{0, -1, -5, math.MinInt, 60, math.MaxInt - 3} {
		c := api.Config{
			Resources: []api.Resource{{Kind: std}, {Kind: std}, {Kind: internal}, {Kind: std}, {Kind: linked, Link: 3}},
			Tasks: []api.Task{
				{Priority: base, Resources: []int{0, 1, 2, 4}},
				{Priority: base + 1, Resources: []int{0}}, {Priority: base + 2, Resources: []int{1, 2}}, {Priority: base + 3, Resources: []int{3}},
				{Priority: base, Resources: []int{0, 3}},
			},
		}
		for _, x := range []struct {
			low, high int
			want      []int
		}{
			{0, 0, nil}, {0, 1, []int{0, 1, 4}}, {0, 2, []int{1, 4}}, {0, 3, []int{4}}, {0, 4, nil},
			{1, 0, nil}, {1, 1, nil}, {1, 2, nil}, {1, 3, nil}, {1, 4, nil},
			{2, 0, nil}, {2, 1, nil}, {2, 2, nil}, {2, 3, nil}, {3, 3, nil}, {3, 0, nil},
			{4, 0, nil}, {4, 4, nil}, {4, 1, []int{0, 3}}, {4, 2, []int{3}}, {4, 3, []int{3}},
		} {
			blocks(t, "edges", c, x.low, x.high, x.want...)
		}
	}
}

// P8.5: there is no such task, whichever of the two it is.
func TestNoTask(t *testing.T) {
	for _, c := range []api.Config{whole(), example(), {}, {Resources: whole().Resources, Isrs: []api.Isr{{}, {}}}} {
		n := len(c.Tasks)
		for _, no := range []int{-1, -2, n, n + 1, n + 7, math.MinInt, math.MaxInt, 1 << 32, -1 << 32} {
			for _, other := range []int{0, n - 1, n, -1, no} {
				for _, pair := range [][2]int{{no, other}, {other, no}} {
					if l, e := ceil.Blocks(c, pair[0], pair[1]); e != api.ErrArg || len(l) != 0 {
						t.Errorf("Blocks(%d, %d): %s %d", pair[0], pair[1], short(l), e)
					}
				}
			}
		}
	}
}

// Only what the chapter names is looked at: all else may be anything.
func TestNotLookedAt(t *testing.T) {
	want := reckoned(t, "whole", whole())
	c := whole()
	c.CPU, c.Modes = "\x00", []string{"", ""}
	c.OS = api.Os{Name: "", Startup: true, Error: true, Shutdown: true, PreTask: true, PostTask: true, Service: true, Params: true, Schedule: true}
	c.Events, c.Counters = []api.Event{{}}, []api.Counter{{}}
	c.Alarms, c.Messages = []api.Alarm{{Counter: -1, Auto: []int{-1}}}, []api.Message{{From: -1}}
	for i := range c.Tasks {
		x := &c.Tasks[i]
		x.Name, x.Activation, x.Auto, x.Events, x.Messages = "", -1, []int{9, -9}, []int{1, 0}, []int{-1}
	}
	for i := range c.Resources {
		c.Resources[i].Name = "\xff"
		if c.Resources[i].Kind != linked {
			c.Resources[i].Link = math.MinInt
		}
	}
	for i := range c.Isrs {
		x := &c.Isrs[i]
		x.Name, x.Category, x.Messages = "", 1-i, []int{3, -3}
	}
	reckons(t, "all else", c, want)
	for id := range c.Resources {
		groups(t, "all else", c, id, groupOf(whole(), id)...)
		tasks, isrs := usersOf(whole(), id)
		used(t, "all else", c, id, tasks, isrs)
	}
	for low := range c.Tasks {
		for high := range c.Tasks {
			blocks(t, "all else", c, low, high, blocksOf(whole(), low, high)...)
		}
	}
}

// What stands behind the end of a list, in the memory in which it lies, is not looked at and not written to.
func TestBehindTheLists(t *testing.T) {
	c := whole()
	c.Tasks = append(c.Tasks, api.Task{Priority: 1000, Resources: []int{-1}})[:6]
	c.Isrs = append(c.Isrs, api.Isr{Priority: 1000, Resources: []int{-1}})[:3]
	c.Resources = append(c.Resources, api.Resource{Kind: 9})[:8]
	for i := range c.Tasks {
		c.Tasks[i].Resources = append(c.Tasks[i].Resources, -7, -8)[:len(c.Tasks[i].Resources)]
	}
	reckons(t, "behind", c, reckoned(t, "whole", whole()))
	for id := range c.Resources {
		groups(t, "behind", c, id, groupOf(whole(), id)...)
	}
	for low := range c.Tasks {
		blocks(t, "behind", c, low, 1, blocksOf(whole(), low, 1)...)
	}
	for _, x := range c.Tasks {
		if l := x.Resources[:len(x.Resources)+2]; !reflect.DeepEqual(l[len(l)-2:], []int{-7, -8}) {
			t.Errorf("written behind a list: %s", short(l))
		}
	}
}
