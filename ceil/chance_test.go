package ceil_test

import (
	"math"
	"reflect"
	"slices"
	"testing"

	"tappet/api"
	"tappet/ceil"
)

// agrees holds all functions against the second reading of the chapter.
func agrees(t *testing.T, what string, c api.Config) api.Errno {
	t.Helper()
	want := errorOf(c)
	if want != api.OK {
		refused(t, what, c, want)
		return want
	}
	reckons(t, what, c, ceilsOf(c))
	for id := range c.Resources {
		groups(t, what, c, id, groupOf(c, id)...)
		tasks, isrs := usersOf(c, id)
		used(t, what, c, id, tasks, isrs)
	}
	for low := range c.Tasks {
		for high := range c.Tasks {
			blocks(t, what, c, low, high, blocksOf(c, low, high)...)
		}
	}
	return want
}

// P8.1 to P8.5: configurations made by chance, which Check takes.
func TestMade(t *testing.T) {
	m := &maker{1}
	for range 3000 {
		c := m.config()
		if e := agrees(t, "made", c); e != api.OK {
			t.Errorf("made %d: %s", e, short(c))
		}
		if t.Failed() {
			return
		}
	}
}

// P8.1: configurations in which some things were turned by chance; each error is among them, and none changes what was handed in.
func TestSpoilt(t *testing.T) {
	m := &maker{2}
	met := map[api.Errno]int{}
	for range 9000 {
		c := m.config()
		for range 1 + m.below(3) {
			m.spoil(&c)
		}
		kept := plain(c)
		met[agrees(t, "spoilt", c)]++
		if !reflect.DeepEqual(kept, plain(c)) {
			t.Errorf("changed: %s, not %s", short(c), short(kept))
		}
		if t.Failed() {
			return
		}
	}
	for _, e := range []api.Errno{api.OK, api.ErrRefs, api.ErrLinks, api.ErrInternal} {
		if met[e] < 300 {
			t.Errorf("error %d: met only %d times", e, met[e])
		}
	}
}

// P8.1: all that three resources can be, with a task and an interrupt that name any one or two.
func TestAllSmallOnes(t *testing.T) {
	kinds := []api.Resource{{Kind: std, Link: 7}, {Kind: internal, Link: 1}, {Kind: 4}}
	for link := -1; link <= 3; link++ {
		kinds = append(kinds, api.Resource{Kind: linked, Link: link})
	}
	all := [][]int{nil}
	for a := -1; a <= 3; a++ {
		all = append(all, []int{a})
		for b := -1; b <= 3; b++ {
			all = append(all, []int{a, b})
		}
	}
	all = append(all, []int{0, 1, 2})
	c := api.Config{Resources: make([]api.Resource, 3), Tasks: []api.Task{{Priority: 1}}, Isrs: []api.Isr{{Priority: 2}}}
	for n := range len(kinds) * len(kinds) * len(kinds) {
		for i := range c.Resources {
			c.Resources[i] = kinds[n%len(kinds)]
			n /= len(kinds)
		}
		for _, c.Tasks[0].Resources = range all {
			for _, c.Isrs[0].Resources = range all {
				if e := ceil.Check(c); e != errorOf(c) {
					t.Fatalf("Check: %d, not %d: %s", e, errorOf(c), short(c))
				}
			}
		}
	}
}

// P8.6: what follows of ceilings, of groups and of Running, on configurations made by chance.
func TestWhatFollows(t *testing.T) {
	m := &maker{3}
	for range 3000 {
		c := m.config()
		x := reckoned(t, "made", c)
		for id := range c.Resources {
			isBound(t, c, x, id)
		}
		for id, task := range c.Tasks {
			if x.Running[id] < task.Priority {
				t.Errorf("Running[%d]: %d: %s", id, x.Running[id], short(c))
			}
		}
		if t.Failed() {
			return
		}
	}
}

// isBound: a ceiling is the priority of one of those who use the resource, and not below that of any; all of its group have it.
func isBound(t *testing.T, c api.Config, x api.Ceils, id int) {
	t.Helper()
	tasks, isrs, _ := ceil.Users(c, id)
	group, _ := ceil.Group(c, id)
	var priorities []int
	for _, i := range tasks {
		priorities = append(priorities, c.Tasks[i].Priority)
	}
	for _, i := range isrs {
		priorities = append(priorities, c.Isrs[i].Priority)
	}
	for _, p := range priorities {
		if x.Resources[id] < p {
			t.Errorf("ceiling of %d: %d, below %d: %s", id, x.Resources[id], p, short(c))
		}
	}
	if len(priorities) > 0 && !slices.Contains(priorities, x.Resources[id]) || len(priorities) == 0 && x.Resources[id] != -1 {
		t.Errorf("ceiling of %d: %d, none of %s: %s", id, x.Resources[id], short(priorities), short(c))
	}
	for _, other := range group {
		if x.Resources[other] != x.Resources[id] {
			t.Errorf("ceilings of one group, %d and %d: %s: %s", id, other, short(x), short(c))
		}
	}
	for i, task := range c.Tasks {
		named := slices.ContainsFunc(task.Resources, func(r int) bool { return slices.Contains(group, r) })
		if named != slices.Contains(tasks, i) {
			t.Errorf("Users(%d): %s: %s", id, short(tasks), short(c))
		}
	}
}

// P8.6: with a greater priority somewhere no ceiling is lower, and no Running.
func TestGreaterPriority(t *testing.T) {
	m := &maker{4}
	risen := 0
	for range 6000 {
		c := m.config()
		x := reckoned(t, "made", c)
		n := len(c.Tasks) + len(c.Isrs)
		if n == 0 {
			continue
		}
		if i := m.below(n); i < len(c.Tasks) {
			m.raise(&c.Tasks[i].Priority)
		} else {
			m.raise(&c.Isrs[i-len(c.Tasks)].Priority)
		}
		y := reckoned(t, "raised", c)
		if y.Scheduler < x.Scheduler {
			t.Errorf("Scheduler: %d, was %d: %s", y.Scheduler, x.Scheduler, short(c))
		}
		for _, pair := range [][2][]int{{x.Resources, y.Resources}, {x.Running, y.Running}} {
			for id := range pair[0] {
				if pair[1][id] < pair[0][id] {
					t.Errorf("lower: %s, was %s: %s", short(y), short(x), short(c))
				}
				if pair[1][id] > pair[0][id] {
					risen++
				}
			}
		}
		if !slices.Equal(x.Tasks, y.Tasks) || !slices.Equal(x.Isrs, y.Isrs) {
			t.Errorf("counts: %s, were %s: %s", short(y), short(x), short(c))
		}
		if t.Failed() {
			return
		}
	}
	if risen < 1000 {
		t.Errorf("only %d became greater", risen)
	}
}

// raise makes a priority greater.
func (m *maker) raise(p *int) {
	if by := pick(&m.chance, 1, 2, 50, math.MaxInt); *p > math.MaxInt-by {
		*p = math.MaxInt
	} else {
		*p += by
	}
}

// R3: answers are new memory, apart from what was handed in and from one another; what is written over them changes no later answer, nor what was handed in.
func TestAnswersAreNew(t *testing.T) {
	m := &maker{5}
	for n := range 400 {
		c := m.config()
		if n == 0 {
			c = whole()
		}
		kept := plain(c)
		for range 2 {
			all := []any{c}
			x := reckoned(t, "made", c)
			all = append(all, x, reckoned(t, "made", c))
			lists := [][]int{x.Resources, x.Running, x.Tasks, x.Isrs}
			for id := range c.Resources {
				group, _ := ceil.Group(c, id)
				tasks, isrs, _ := ceil.Users(c, id)
				lists = append(lists, group, tasks, isrs)
				all = append(all, group, tasks, isrs)
			}
			for low := range c.Tasks {
				for high := range c.Tasks {
					l, _ := ceil.Blocks(c, low, high)
					lists = append(lists, l)
					all = append(all, l)
				}
			}
			apart(t, all...)
			for _, l := range lists {
				l = l[:cap(l)]
				for i := range l {
					l[i] = -99
				}
			}
			agrees(t, "written over", c)
		}
		if !reflect.DeepEqual(kept, plain(c)) {
			t.Errorf("changed: %s, not %s", short(c), short(kept))
		}
		if t.Failed() {
			return
		}
	}
}

// R3: nil and empty lists are the same.
func TestNilAndEmpty(t *testing.T) {
	m := &maker{6}
	for range 300 {
		c := m.config()
		d := plain(c)
		for i := range d.Tasks {
			d.Tasks[i].Resources = append([]int{}, d.Tasks[i].Resources...)
		}
		for i := range d.Isrs {
			d.Isrs[i].Resources = append([]int{}, d.Isrs[i].Resources...)
		}
		d.Tasks, d.Isrs, d.Resources = append([]api.Task{}, d.Tasks...), append([]api.Isr{}, d.Isrs...), append([]api.Resource{}, d.Resources...)
		reckons(t, "empty, not nil", d, reckoned(t, "made", plain(c)))
	}
}

// R4: what was asked ahead counts for nothing.
func TestNothingIsKept(t *testing.T) {
	m := &maker{7}
	var l []api.Config
	for range 200 {
		c := m.config()
		if m.yes() {
			m.spoil(&c)
		}
		l = append(l, c)
	}
	for range 3 {
		shuffle(&m.chance, l)
		for _, c := range l {
			agrees(t, "again", c)
		}
	}
}
