package ceil_test

import (
	"math"
	"testing"

	"tappet/api"
	"tappet/ceil"
)

// fault is a turn behind which Check objects.
type fault struct {
	what string
	want api.Errno
	make func(c *api.Config)
}

func setTask(id int, l ...int) func(c *api.Config) {
	return func(c *api.Config) { c.Tasks[id].Resources = l }
}

func setIsr(id int, l ...int) func(c *api.Config) {
	return func(c *api.Config) { c.Isrs[id].Resources = l }
}

func setResource(id int, kind api.ResourceKind, link int) func(c *api.Config) {
	return func(c *api.Config) { c.Resources[id].Kind, c.Resources[id].Link = kind, link }
}

func both(l ...func(c *api.Config)) func(c *api.Config) {
	return func(c *api.Config) {
		for _, f := range l {
			f(c)
		}
	}
}

// wrongLists are such as do not rise, or name what is not; there are eight resources.
func wrongLists() [][]int {
	return [][]int{
		{8}, {-1}, {9}, {math.MaxInt}, {math.MinInt}, {1 << 32}, {0, 8}, {-1, 0}, {0, 1, 8}, {7, 8}, {-2, -1}, {8, 9}, {-1, 8}, {math.MinInt, math.MaxInt},
		{1, 0}, {3, 1}, {7, 0}, {0, 3, 1}, {3, 0, 1}, {1, 3, 0}, {0, 1, 3, 0}, {4, 3, 1, 0}, {0, -1}, {0, 8, 1},
		{0, 0}, {7, 7}, {0, 1, 1}, {1, 1, 3}, {0, 1, 0}, {0, 0, 0}, {0, 1, 3, 4, 4},
	}
}

func refsFaults() []fault {
	var l []fault
	for _, list := range wrongLists() {
		for id := range whole().Tasks {
			l = append(l, fault{"a task's list", api.ErrRefs, setTask(id, list...)})
		}
		for id := range whole().Isrs {
			l = append(l, fault{"an interrupt's list", api.ErrRefs, setIsr(id, list...)})
		}
	}
	for id := range whole().Resources {
		for _, kind := range []api.ResourceKind{0, 4, -1, 5, -2, math.MinInt, math.MaxInt, 1 << 32, 1<<32 + 1, 1<<8 + 2} {
			l = append(l, fault{"no kind", api.ErrRefs, setResource(id, kind, 0)}, fault{"no kind, with a link", api.ErrRefs, setResource(id, kind, 4)})
		}
		for _, link := range []int{8, -1, 9, -8, math.MinInt, math.MaxInt, 1 << 32} {
			l = append(l, fault{"a link that is no number", api.ErrRefs, setResource(id, linked, link)})
		}
	}
	return l
}

func linksFaults() []fault {
	return []fault{
		{"to itself", api.ErrLinks, setResource(7, linked, 7)},
		{"to itself, the first", api.ErrLinks, setResource(0, linked, 0)},
		{"two", api.ErrLinks, both(setResource(1, linked, 7), setResource(7, linked, 1))},
		{"four", api.ErrLinks, setResource(4, linked, 0)},
		{"three, and one that leads there", api.ErrLinks, setResource(4, linked, 3)},
		{"two, and two that lead there", api.ErrLinks, setResource(4, linked, 6)},
		{"one, and three that lead there", api.ErrLinks, setResource(4, linked, 4)},
		{"two rings", api.ErrLinks, both(setResource(4, linked, 0), setResource(7, linked, 7))},
		{"two rings that one leads to", api.ErrLinks, both(setResource(1, linked, 7), setResource(7, linked, 7), setResource(4, linked, 4))},
		{"internal ones no more", api.ErrLinks, both(setResource(2, linked, 5), setResource(5, linked, 2))},
	}
}

func internalFaults() []fault {
	l := []fault{
		{"a task with two", api.ErrInternal, setTask(4, 2, 5)},
		{"a task with two and others", api.ErrInternal, setTask(5, 0, 2, 3, 5, 6)},
		{"a task with two, the first", api.ErrInternal, setTask(0, 0, 1, 2, 3, 5)},
		{"a task with three", api.ErrInternal, both(setResource(7, internal, 0), setTask(3, 2, 5, 7))},
		{"a task's second became internal", api.ErrInternal, setResource(4, internal, 0)},
		{"all became internal", api.ErrInternal, func(c *api.Config) {
			for id := range c.Resources {
				c.Resources[id].Kind = internal
			}
		}},
		{"an interrupt's became internal", api.ErrInternal, setResource(1, internal, 0)},
		{"over one step, nobody uses it", api.ErrInternal, setResource(7, linked, 5)},
		{"over one step, it is used", api.ErrInternal, setResource(1, linked, 2)},
		{"over one step, behind", api.ErrInternal, setResource(6, linked, 2)},
		{"over two", api.ErrInternal, setResource(3, linked, 5)},
		{"over two, nobody uses it", api.ErrInternal, both(setResource(7, linked, 1), setResource(1, linked, 5), setIsr(1), setIsr(2), setTask(0))},
		{"over three", api.ErrInternal, both(setResource(4, linked, 2), setTask(3), setTask(5), setTask(0), setIsr(2))},
	}
	for id := range whole().Isrs {
		for _, list := range [][]int{{2}, {5}, {1, 2}, {2, 3}, {0, 1, 2, 3}, {2, 5}, {5, 7}} {
			l = append(l, fault{"an interrupt with one", api.ErrInternal, setIsr(id, list...)})
		}
	}
	return l
}

// P8.1: each cause alone; all functions tell it, and nothing besides.
func TestFaults(t *testing.T) {
	for _, l := range [][]fault{refsFaults(), linksFaults(), internalFaults()} {
		for _, x := range l {
			refused(t, x.what, turned(x.make), x.want)
		}
	}
}

// P8.1: where the words leave nothing to object to.
func TestTaken(t *testing.T) {
	for what, c := range map[string]api.Config{
		"nothing":             {},
		"the example":         example(),
		"the whole":           whole(),
		"resources alone":     {Resources: whole().Resources},
		"tasks alone":         {Tasks: []api.Task{{}, {Priority: -7}}},
		"interrupts alone":    {Isrs: []api.Isr{{}, {Priority: -7}}},
		"a link of others":    turned(func(c *api.Config) { c.Resources[1].Link, c.Resources[2].Link, c.Resources[7].Link = -1, 8, 2 }),
		"others to itself":    turned(func(c *api.Config) { c.Resources[1].Link, c.Resources[2].Link, c.Resources[7].Link = 1, 2, 7 }),
		"others round":        turned(func(c *api.Config) { c.Resources[4].Link, c.Resources[1].Link, c.Resources[2].Link = 0, 7, 5 }),
		"all that may be":     turned(setTask(4, 0, 1, 2, 3, 4, 6, 7), setIsr(0, 0, 1, 3, 4, 6, 7)),
		"the first, the last": turned(setTask(4, 0, 7), setTask(1, 0), setTask(2, 7), setIsr(0, 7), setIsr(1, 0, 7)),
		"one for all":         turned(setTask(0, 2), setTask(1, 2), setTask(2, 2), setTask(3, 2), setTask(4, 2), setTask(5, 2)),
		"rising names of one": turned(setTask(4, 0, 3, 4, 6)),
		"links to the last":   {Resources: []api.Resource{{Kind: linked, Link: 1}, {Kind: linked, Link: 2}, {Kind: std}}},
		"links to the first":  {Resources: []api.Resource{{Kind: std}, {Kind: linked, Link: 0}, {Kind: linked, Link: 1}}},
		"many links to one":   {Resources: []api.Resource{{Kind: linked, Link: 1}, {Kind: std}, {Kind: linked, Link: 1}, {Kind: linked, Link: 0}}},
		"empty lists":         {Tasks: []api.Task{{Resources: []int{}}}, Isrs: []api.Isr{{Resources: []int{}}}, Resources: []api.Resource{}},
	} {
		if e := ceil.Check(c); e != api.OK {
			t.Errorf("%q: Check: %d: %s", what, e, short(c))
		}
		agrees(t, what, c)
	}
}

// P8.1: priorities may be any.
func TestAnyPriorities(t *testing.T) {
	for _, p := range []int{0, -1, -2, 63, 64, 127, 128, math.MinInt, math.MaxInt} {
		for i := range 6 {
			agrees(t, "a task", turned(func(c *api.Config) { c.Tasks[i].Priority = p }))
		}
		for i := range 3 {
			agrees(t, "an interrupt", turned(func(c *api.Config) { c.Isrs[i].Priority = p }))
		}
		c := turned(func(c *api.Config) {
			for i := range c.Tasks {
				c.Tasks[i].Priority = p
			}
			for i := range c.Isrs {
				c.Isrs[i].Priority = p
			}
		})
		if e := ceil.Check(c); e != api.OK {
			t.Errorf("Check, all %d: %d", p, e)
		}
		agrees(t, "all", c)
	}
}

// P8.1: two causes at once, whichever came first: ErrRefs ahead of ErrLinks ahead of ErrInternal. They lie at places that do not touch one another.
func TestTwoFaults(t *testing.T) {
	for _, x := range []struct {
		refs, links, internals []func(c *api.Config)
	}{
		{
			[]func(c *api.Config){setTask(1, 8), setTask(4, 1, 0), setTask(2, 1, 1), setIsr(0, -1), setIsr(0, 3, 1), setIsr(0, 0, 0), setResource(7, 0, 0), setResource(7, 4, 0), setResource(7, linked, 8), setResource(7, linked, -1)},
			[]func(c *api.Config){setResource(4, linked, 4), setResource(4, linked, 0), setResource(6, linked, 3), setResource(0, linked, 0)},
			[]func(c *api.Config){setTask(5, 2, 5), setIsr(1, 2), setIsr(2, 1, 5), setResource(1, linked, 5), both(setResource(1, linked, 2), setResource(2, linked, 5)), setResource(1, internal, 0)},
		},
		{
			[]func(c *api.Config){setTask(0, 0, 9), setIsr(2, 1, 1), setResource(0, -1, 0), setResource(0, linked, 8)},
			[]func(c *api.Config){setResource(7, linked, 7), setResource(4, linked, 6)},
			[]func(c *api.Config){setTask(3, 2, 5), setIsr(1, 5), setResource(1, linked, 2)},
		},
	} {
		for _, a := range x.refs {
			refused(t, "refs", turned(a), api.ErrRefs)
			for _, b := range x.links {
				refused(t, "links", turned(b), api.ErrLinks)
				refused(t, "refs, links", turned(a, b), api.ErrRefs)
				for _, d := range x.internals {
					refused(t, "internals", turned(d), api.ErrInternal)
					refused(t, "links, internals", turned(b, d), api.ErrLinks)
					refused(t, "refs, internals", turned(a, d), api.ErrRefs)
					refused(t, "refs, links, internals", turned(a, b, d), api.ErrRefs)
				}
			}
		}
	}
}

// P8.1: of one task, interrupt or resource, two causes at once.
func TestTwoFaultsOfOne(t *testing.T) {
	for _, x := range []fault{
		{"a task with two internal ones, and one that is not", api.ErrRefs, setTask(0, 2, 5, 8)},
		{"a task with an internal one twice", api.ErrRefs, setTask(0, 2, 2)},
		{"a task with two internal ones, falling", api.ErrRefs, setTask(0, 5, 2)},
		{"an interrupt with an internal one, and one that is not", api.ErrRefs, setIsr(0, 2, 8)},
		{"an interrupt with an internal one twice", api.ErrRefs, setIsr(0, 5, 5)},
		{"an interrupt with an internal one, falling", api.ErrRefs, setIsr(0, 5, 1)},
		{"a way to a link that is no number", api.ErrRefs, setResource(4, linked, 8)},
		{"a way to one of no kind", api.ErrRefs, setResource(4, 0, 0)},
		{"a task names what goes round, and two internal ones", api.ErrLinks, both(setResource(7, linked, 7), setTask(0, 2, 5, 7))},
		{"an interrupt names what goes round, and an internal one", api.ErrLinks, both(setResource(7, linked, 7), setIsr(0, 2, 7))},
	} {
		refused(t, x.what, turned(x.make), x.want)
	}
}

// P8.1: rows of links far longer than a configuration that may be has, from both sides, that end and that go round; many ways lead over the same links.
func TestLongRowsOfLinks(t *testing.T) {
	const n = 100000
	for _, last := range []struct {
		r    api.Resource
		want api.Errno
	}{
		{api.Resource{Kind: std}, api.OK}, {api.Resource{Kind: internal}, api.ErrInternal}, {api.Resource{Kind: linked, Link: 0}, api.ErrLinks},
		{api.Resource{Kind: linked, Link: n / 2}, api.ErrLinks}, {api.Resource{Kind: linked, Link: n - 1}, api.ErrLinks}, {api.Resource{Kind: linked, Link: n}, api.ErrRefs}, {api.Resource{}, api.ErrRefs},
	} {
		for _, up := range []bool{true, false} {
			c := api.Config{Resources: make([]api.Resource, n), Tasks: []api.Task{{Priority: 3, Resources: []int{0}}}, Isrs: []api.Isr{{Priority: 2, Resources: []int{n - 1}}}}
			for i := range c.Resources {
				c.Resources[i] = api.Resource{Kind: linked, Link: i - 1}
				if up {
					c.Resources[i].Link = i + 1
				}
			}
			r := last.r
			if up {
				c.Resources[n-1] = r
			} else {
				if r.Kind == linked && r.Link < n {
					r.Link = n - 1 - r.Link
				}
				c.Resources[0] = r
			}
			longRow(t, c, last.want)
		}
	}
}

func longRow(t *testing.T, c api.Config, want api.Errno) {
	t.Helper()
	n := len(c.Resources)
	if e := ceil.Check(c); e != want {
		t.Errorf("Check: %d, not %d", e, want)
	}
	if want != api.OK {
		return
	}
	group, e := ceil.Group(c, n/2)
	if e != api.OK || len(group) != n || group[0] != 0 || group[n/2] != n/2 || group[n-1] != n-1 {
		t.Errorf("Group: %d of %d %d", len(group), n, e)
	}
	used(t, "a long row", c, n/2, []int{0}, []int{0})
	x := reckoned(t, "a long row", c)
	if len(x.Resources) != n || x.Resources[0] != 3 || x.Resources[n/2] != 3 || x.Resources[n-1] != 3 {
		t.Errorf("Reckon: %s", short(x))
	}
}

// R1: lists of users far longer than a configuration that may be has.
func TestManyUsers(t *testing.T) {
	const n = 20000
	c := api.Config{Resources: []api.Resource{{Kind: std}, {Kind: linked}, {Kind: internal}}, Tasks: make([]api.Task, n), Isrs: make([]api.Isr, n)}
	for i := range n {
		c.Tasks[i] = api.Task{Priority: i, Full: true, Resources: []int{i % 2, 2}}
		c.Isrs[i] = api.Isr{Priority: -i, Resources: []int{0, 1}}
	}
	x := reckoned(t, "many", c)
	if x.Resources[0] != n-1 || x.Resources[1] != n-1 || x.Resources[2] != n-1 || x.Scheduler != n-1 || len(x.Running) != n || x.Running[0] != n-1 || len(x.Tasks) != n || x.Tasks[n-1] != 1 || len(x.Isrs) != n || x.Isrs[n-1] != 2 {
		t.Errorf("Reckon: %s", short(x))
	}
	tasks, isrs, e := ceil.Users(c, 1)
	if e != api.OK || len(tasks) != n || len(isrs) != n || tasks[n-1] != n-1 || isrs[n-1] != n-1 {
		t.Errorf("Users: %d %d %d", len(tasks), len(isrs), e)
	}
	blocks(t, "many", c, 0, n-1, 0)
	blocks(t, "many", c, n-1, 0)
	c.Isrs[n-1].Resources = []int{2}
	refused(t, "many", c, api.ErrInternal)
}
