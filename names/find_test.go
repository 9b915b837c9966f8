package names_test

import (
	"strings"
	"testing"

	"tappet/api"
	"tappet/names"
)

// lists are the names of a configuration's objects by their kinds, in the order of their lists.
func lists(c api.Config) map[string][]string {
	l := map[string][]string{"APPMODE": c.Modes}
	each(c.Tasks, func(x api.Task) { l["TASK"] = append(l["TASK"], x.Name) })
	each(c.Isrs, func(x api.Isr) { l["ISR"] = append(l["ISR"], x.Name) })
	each(c.Resources, func(x api.Resource) { l["RESOURCE"] = append(l["RESOURCE"], x.Name) })
	each(c.Events, func(x api.Event) { l["EVENT"] = append(l["EVENT"], x.Name) })
	each(c.Counters, func(x api.Counter) { l["COUNTER"] = append(l["COUNTER"], x.Name) })
	each(c.Alarms, func(x api.Alarm) { l["ALARM"] = append(l["ALARM"], x.Name) })
	each(c.Messages, func(x api.Message) { l["MESSAGE"] = append(l["MESSAGE"], x.Name) })
	return l
}

func noKinds() []string {
	return []string{"OS", "CPU", "", "THING", "task", "Task", "TASK ", "TASKS", "MODE", "APPMODES", "LINKEDRESOURCE", "SENDINGMESSAGE"}
}

func finds(t *testing.T, c api.Config, kind, name string, want int) {
	t.Helper()
	if got := names.Find(c, kind, name); got != want {
		t.Errorf("Find(%s, %q, %q): %d, not %d", short(c), kind, name, got, want)
	}
}

func isNamed(t *testing.T, c api.Config, kind string, id int, want string) {
	t.Helper()
	if got, e := names.Name(c, kind, id); got != want || e != api.OK {
		t.Errorf("Name(%s, %q, %d): %q %d, not %q", short(c), kind, id, got, e, want)
	}
}

func isNotNamed(t *testing.T, c api.Config, kind string, id int) {
	t.Helper()
	if got, e := names.Name(c, kind, id); got != "" || e != api.ErrArg {
		t.Errorf("Name(%s, %q, %d): %q %d", short(c), kind, id, got, e)
	}
}

// P6.6: the chapter's example.
func TestFindAndNameOfTheExample(t *testing.T) {
	c := resolved(t, exampleHead+"EVENT = B; EVENT = A; }; EVENT A { }; EVENT B { MASK = 1; };")
	finds(t, c, "EVENT", "B", 1)
	finds(t, c, "OS", "o", -1)
	isNamed(t, c, "TASK", 0, "T")
	isNotNamed(t, c, "TASK", 1)
}

// P6.6: each kind, each number, and what is out of range or no kind, of configurations with and without a sheet.
func TestFindAndNameOfEachKind(t *testing.T) {
	m := maker{19}
	all := []api.Config{{}, everyConfig(), {Modes: make([]string, 3), Tasks: make([]api.Task, 2), Messages: make([]api.Message, 1)}}
	for range 200 {
		c := m.config()
		for range m.below(6) {
			m.spoil(&c)
		}
		all = append(all, c)
	}
	out := []int{-1 << 63, -1 << 32, -2, -1, 1 << 31, 1 << 32, 1<<63 - 1}
	for _, c := range all {
		by := lists(c)
		for _, kind := range eightKinds() {
			for id, name := range by[kind] {
				isNamed(t, c, kind, id, name)
			}
			isNotNamed(t, c, kind, len(by[kind]))
			for _, id := range out {
				isNotNamed(t, c, kind, id)
			}
			for _, name := range append(append(goodNames(), badNames()...), "T", "S", "m", "c", "o", c.CPU, c.OS.Name) {
				want := -1
				for id := len(by[kind]) - 1; id >= 0; id-- {
					if by[kind][id] == name {
						want = id
					}
				}
				finds(t, c, kind, name, want)
			}
		}
		for _, kind := range noKinds() {
			for _, name := range []string{c.OS.Name, c.CPU, "", "a"} {
				finds(t, c, kind, name, -1)
			}
			for _, id := range append(out, 0, 1) {
				isNotNamed(t, c, kind, id)
			}
		}
	}
}

// P6.6: the first of several with one name; kinds are not mixed up.
func TestFindTheFirst(t *testing.T) {
	c := api.Config{Modes: []string{"a", "b", "b"}, Tasks: []api.Task{{Name: "x"}, {Name: "b"}, {Name: "b"}, {Name: "x"}}, Events: []api.Event{{Name: "e"}, {Name: ""}, {Name: ""}}}
	finds(t, c, "APPMODE", "b", 1)
	finds(t, c, "TASK", "b", 1)
	finds(t, c, "TASK", "x", 0)
	finds(t, c, "TASK", "a", -1)
	finds(t, c, "EVENT", "", 1)
	finds(t, c, "RESOURCE", "b", -1)
	finds(t, c, "TASK", strings.Repeat("b", 100), -1)
	isNamed(t, c, "EVENT", 2, "")
	isNamed(t, c, "APPMODE", 2, "b")
}
