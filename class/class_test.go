package class_test

import (
	"math"
	"reflect"
	"strings"
	"testing"

	"tappet/api"
	"tappet/class"
	"tappet/names"
	"tappet/schema"
	"tappet/tree"
)

// The chapter's example 1.
func TestExample1(t *testing.T) {
	c := small()
	may(t, "1", c)
	classed(t, c, api.BCC1)
	c.Tasks[0].Activation = 2
	may(t, "1", c)
	classed(t, c, api.BCC2)
	c.Events = []api.Event{{Name: "e", Mask: 1}}
	c.Tasks[0].Events = []int{0}
	told(t, "1", c, api.Verdict{Code: api.ErrRule, Kind: "TASK", ID: 0})
}

// The chapter's example 2.
func TestExample2(t *testing.T) {
	c := small()
	c.Tasks = nil
	told(t, "2", c, api.Verdict{Code: api.ErrOver, Kind: "TASK", ID: 0})
	c = small()
	c.Tasks = append(c.Tasks, c.Tasks[0])
	told(t, "2", c, api.Verdict{Code: api.ErrNames, Kind: "TASK", ID: 1})
}

// The chapter's example 3.
func TestExample3(t *testing.T) {
	c := small()
	c.Resources = []api.Resource{{Name: "r", Kind: api.ResLinked, Link: 1}, {Name: "s", Kind: api.ResLinked, Link: 0}}
	told(t, "3", c, api.Verdict{Code: api.ErrRule, Kind: "RESOURCE", ID: 0})
	rooted(t, c, -1, -1)
}

// The chapter's example 4.
func TestExample4(t *testing.T) {
	c := small()
	c.Isrs = []api.Isr{{Name: "i", Category: 2, Priority: 90}, {Name: "j", Category: 1, Priority: 80}}
	told(t, "4", c, api.Verdict{Code: api.ErrRule, Kind: "ISR", ID: 1})
}

// The chapter's example 5.
func TestExample5(t *testing.T) {
	c := small()
	c.Events = []api.Event{{Name: "e", Mask: 1}, {Name: "f", Mask: 2}}
	c.Tasks[0].Events = []int{0}
	c.Counters = []api.Counter{{Name: "k", Max: 9, Base: 1, Min: 1}}
	c.Alarms = []api.Alarm{{Name: "a", Action: api.Action{Kind: api.ActEvent, Event: 1}}}
	told(t, "5", c, api.Verdict{Code: api.ErrRule, Kind: "ALARM", ID: 0})
	c.Alarms[0] = api.Alarm{Name: "a", Action: api.Action{Kind: api.ActEvent}, Auto: []int{0}}
	told(t, "5", c, api.Verdict{Code: api.ErrValue, Kind: "ALARM", ID: 0})
	c.Alarms[0].Time = 1
	may(t, "5", c)
}

func classed(t *testing.T, c api.Config, want api.Class) {
	t.Helper()
	if k, e := class.Class(c); k != want || e != api.OK {
		t.Errorf("Class: %d %d, not %d: %s", k, e, want, short(c))
	}
}

// rooted holds Root of each resource against what it must be.
func rooted(t *testing.T, c api.Config, want ...int) {
	t.Helper()
	for id, root := range want {
		if r := class.Root(c, id); r != root {
			t.Errorf("Root(%d): %d, not %d: %s", id, r, root, short(c.Resources))
		}
	}
}

// P7.2: the classes of tasks that are basic or extended, activated once or more often, of one priority or of several.
func TestClasses(t *testing.T) {
	for _, x := range []struct {
		events      int // how many tasks are extended, from the first on
		activation  int // of the last one
		first, last int // priorities
		want        api.Class
	}{
		{0, 1, 1, 2, api.BCC1}, {0, 1, 2, 1, api.BCC1}, {0, 1, 0, 63, api.BCC1}, {0, 2, 1, 2, api.BCC2}, {0, 255, 63, 0, api.BCC2}, {0, 1, 0, 0, api.BCC2}, {0, 1, 63, 63, api.BCC2}, {0, 2, 5, 5, api.BCC2},
		{1, 1, 1, 2, api.ECC1}, {1, 1, 63, 0, api.ECC1}, {1, 2, 1, 2, api.ECC2}, {1, 1, 7, 7, api.ECC2}, {1, 3, 7, 7, api.ECC2},
		{2, 1, 1, 2, api.ECC1}, {2, 1, 0, 0, api.ECC2}, {3, 1, 2, 1, api.ECC1}, {3, 1, 1, 1, api.ECC2},
	} {
		c := small()
		c.Events = []api.Event{{Name: "e", Mask: 1}}
		c.Tasks = []api.Task{{Name: "t", Priority: x.first, Activation: 1}, {Name: "u", Priority: 30, Activation: 1}, {Name: "v", Priority: x.last, Activation: x.activation}}
		for id := range x.events {
			c.Tasks[id].Events = []int{0}
		}
		classed(t, c, x.want)
	}
	classed(t, whole(), api.ECC2)
}

// P7.2: of a configuration with events that no task has no task is extended.
func TestClassWithoutExtended(t *testing.T) {
	c := small()
	c.Events = []api.Event{{Name: "e", Mask: 1}}
	c.Tasks[0].Events = []int{}
	classed(t, c, api.BCC1)
}

// P7.2: as many tasks as there are priorities may each have its own; one more cannot.
func TestClassOfManyTasks(t *testing.T) {
	for _, n := range []int{63, 64, 65, 256} {
		c := small()
		crowd(&c, "TASK", n)
		for i := range c.Tasks {
			c.Tasks[i].Priority = 63 - i%64
		}
		want := api.BCC1
		if n > 64 {
			want = api.BCC2
		}
		classed(t, c, want)
	}
}

// P7.2: ErrArg of every configuration that may not be, and no class.
func TestClassOfNone(t *testing.T) {
	l := []api.Config{{}, {CPU: "c"}, turned(func(c *api.Config) { c.Messages[6].Kind = 0 })}
	for _, x := range singles() {
		l = append(l, turned(x.make))
	}
	for _, c := range l {
		if k, e := class.Class(c); k != 0 || e != api.ErrArg {
			t.Errorf("Class: %d %d: %s", k, e, short(c))
		}
	}
}

func farNumbers() []int {
	return []int{-1, -2, math.MinInt, math.MaxInt, math.MinInt32, math.MaxInt32, 1 << 32, -1 << 32}
}

// P7.3 Extended: tasks that there are, and numbers of none; of any configuration.
func TestExtended(t *testing.T) {
	c := api.Config{Tasks: []api.Task{{Events: []int{-5}}, {}, {Events: []int{}}, {Events: []int{9, 9}}}}
	for id, want := range []bool{true, false, false, true, false, false} {
		if x := class.Extended(c, id); x != want {
			t.Errorf("Extended(%d): %v", id, x)
		}
	}
	for _, id := range farNumbers() {
		if class.Extended(c, id) || class.Extended(api.Config{}, id) || class.Extended(whole(), id) {
			t.Errorf("Extended(%d)", id)
		}
	}
	if class.Extended(api.Config{}, 0) {
		t.Error("Extended of no task")
	}
}

// P7.3 Root: of resources of all kinds and of none, linked in any way.
func TestRoot(t *testing.T) {
	const std, linked, internal = api.ResStandard, api.ResLinked, api.ResInternal
	rooted(t, whole(), 1, 1, 2, 1, 4, -1)
	rooted(t, api.Config{Resources: []api.Resource{{Kind: std, Link: 1}, {Kind: internal, Link: -1}, {Kind: 0, Link: 1}, {Kind: 9, Link: 9}}}, 0, 1, 2, 3, -1)
	rooted(t, api.Config{Resources: []api.Resource{{Kind: linked, Link: 1}, {Kind: internal}, {Kind: linked, Link: 3}, {Kind: 9}, {Kind: linked, Link: 2}}}, 1, 1, 3, 3, 3, -1)
	rooted(t, api.Config{Resources: []api.Resource{{Kind: linked}, {Kind: linked}, {Kind: linked, Link: 3}, {Kind: linked, Link: 2}, {Kind: linked, Link: 3}}}, -1, -1, -1, -1, -1)
	for _, far := range append(farNumbers(), 3) {
		c := api.Config{Resources: []api.Resource{{Kind: linked, Link: far}, {Kind: linked, Link: 0}, {Kind: std, Link: far}}}
		rooted(t, c, -1, -1, 2)
		if class.Root(c, far) != -1 || class.Root(api.Config{}, far) != -1 {
			t.Errorf("Root(%d)", far)
		}
	}
	if class.Root(api.Config{}, 0) != -1 {
		t.Error("Root of no resource")
	}
}

// P7.3, R1: rows of links far longer than may be, that end, that end nowhere, and that go round.
func TestRootOfLongRows(t *testing.T) {
	const n = 1 << 20
	c := api.Config{Resources: make([]api.Resource, n)}
	for i := range c.Resources {
		c.Resources[i] = api.Resource{Kind: api.ResLinked, Link: i + 1}
	}
	end := &c.Resources[n-1]
	for _, x := range []struct {
		end  api.Resource
		want int
	}{
		{api.Resource{Kind: api.ResStandard}, n - 1}, {api.Resource{Kind: api.ResInternal}, n - 1}, {api.Resource{}, n - 1},
		{api.Resource{Kind: api.ResLinked, Link: n}, -1}, {api.Resource{Kind: api.ResLinked, Link: -1}, -1},
		{api.Resource{Kind: api.ResLinked, Link: 0}, -1}, {api.Resource{Kind: api.ResLinked, Link: n - 1}, -1}, {api.Resource{Kind: api.ResLinked, Link: n / 2}, -1},
	} {
		*end = x.end
		for _, id := range []int{0, 1, n / 2, n - 1} {
			if r := class.Root(c, id); r != x.want {
				t.Errorf("Root(%d) of a row that ends with %v: %d, not %d", id, x.end, r, x.want)
			}
		}
	}
}

// R1: lists and texts far longer than may be are refused, and calls end.
func TestGreatOnes(t *testing.T) {
	const n = 1 << 18
	for _, kind := range words()[2:] {
		c := small()
		crowd(&c, kind, n)
		told(t, kind, c, api.Verdict{Code: api.ErrOver, Kind: kind})
	}
	c := small()
	for i := range n {
		c.Tasks[0].Auto = append(c.Tasks[0].Auto, i)
	}
	told(t, "a long list", c, api.Verdict{Code: api.ErrRef, Kind: "TASK"})
	c = small()
	c.OS.Name = strings.Repeat("a", n)
	told(t, "a long name", c, api.Verdict{Code: api.ErrNames, Kind: "OS"})
}

// R1: the zero configuration, and objects that are all zero.
func TestZeros(t *testing.T) {
	told(t, "zero", api.Config{}, api.Verdict{Code: api.ErrNames, Kind: "CPU"})
	told(t, "zero", api.Config{CPU: "c"}, api.Verdict{Code: api.ErrNames, Kind: "OS"})
	told(t, "zero", api.Config{CPU: "c", OS: api.Os{Name: "o"}}, api.Verdict{Code: api.ErrOver, Kind: "APPMODE"})
	told(t, "zero", api.Config{CPU: "c", OS: api.Os{Name: "o"}, Modes: []string{""}}, api.Verdict{Code: api.ErrNames, Kind: "APPMODE"})
	told(t, "zero", api.Config{CPU: "c", OS: api.Os{Name: "o"}, Modes: []string{"m"}}, api.Verdict{Code: api.ErrOver, Kind: "TASK"})
}

// R3: nil and empty lists are the same, and what is handed in is not changed.
func TestEmptyLists(t *testing.T) {
	c := small()
	c.Resources, c.Events, c.Counters, c.Alarms, c.Isrs, c.Messages = []api.Resource{}, []api.Event{}, []api.Counter{}, []api.Alarm{}, []api.Isr{}, []api.Message{}
	c.Tasks[0].Auto, c.Tasks[0].Resources, c.Tasks[0].Events, c.Tasks[0].Messages = []int{}, []int{}, []int{}, []int{}
	may(t, "empty lists", c)
	classed(t, c, api.BCC1)
	c.Modes = []string{}
	told(t, "no modes", c, api.Verdict{Code: api.ErrOver, Kind: "APPMODE"})
	c = whole()
	follows(t, c)
	if !reflect.DeepEqual(c, whole()) {
		t.Error("changed")
	}
}

// ofText is the configuration of a text.
func ofText(t *testing.T, objects string) api.Config {
	t.Helper()
	x, f := tree.Parse(`OIL_VERSION = "2.5"; CPU c { ` + objects + ` };`)
	s, g := schema.Read(x)
	c, h := names.Resolve(s)
	if f.Code != api.OK || g.Code != api.OK || h.Code != api.OK {
		t.Fatal(f, g, h)
	}
	return c
}

// P7.1 and P7.2 behind the layers that read a text.
func TestOfTexts(t *testing.T) {
	const head = `OS o { }; APPMODE m { }; EVENT e { }; EVENT f { }; RESOURCE r { RESOURCEPROPERTY = STANDARD; }; RESOURCE s { RESOURCEPROPERTY = LINKED { LINKEDRESOURCE = r; }; }; `
	const task = `TASK t { PRIORITY = 1; SCHEDULE = FULL; ACTIVATION = 1; AUTOSTART = TRUE { APPMODE = m; }; RESOURCE = s; EVENT = f; EVENT = e; }; `
	c := ofText(t, head+task)
	may(t, "text", c)
	classed(t, c, api.ECC1)
	rooted(t, c, 0, 0)
	c = ofText(t, head+task+`TASK u { PRIORITY = 1; SCHEDULE = NON; ACTIVATION = 2; AUTOSTART = FALSE; };`)
	may(t, "text", c)
	classed(t, c, api.ECC2)
	told(t, "text", ofText(t, head), api.Verdict{Code: api.ErrOver, Kind: "TASK"})
	told(t, "text", ofText(t, head+task+`TASK u { PRIORITY = 1; SCHEDULE = NON; ACTIVATION = 2; AUTOSTART = FALSE; EVENT = e; };`), api.Verdict{Code: api.ErrRule, Kind: "TASK", ID: 1})
}
