package orti_test

import (
	"math"
	"strings"
	"testing"

	"tappet/api"
)

// stands is a look at a system of wholeFacts.
func stands() api.Look {
	return api.Look{
		Phase: api.Up,
		Tasks: []api.TaskLook{
			{State: api.Running, Priority: 80, Active: 255, Held: []int{7, 0}},
			{State: api.Waiting, Priority: 62, Active: 1, Waits: 1},
			{State: api.Suspended, Priority: 7, Held: []int{8}},
		},
		Frames:    []api.Frame{{Kind: api.FTask, ID: 2}, {Kind: api.FIsr, ID: 1}},
		Requested: []int{1, 2},
		Held:      [][]int{{3}, {}, {1, 3}},
		Alarms:    []api.AlarmLook{{Set: true, Left: 3, Cycle: 2}, {}, {Set: true, Left: math.MaxUint32, Cycle: 1 << 31}, {Left: 9, Cycle: 8}},
	}
}

// P11.4: each expression, of each number that there is.
func TestEachExpression(t *testing.T) {
	for expr, want := range map[string]string{
		"$running":  "2",
		"$state[0]": "0", "$state[1]": "1", "$state[2]": "3",
		"$priority[0]": "80", "$priority[1]": "62", "$priority[2]": "7",
		"$active[0]": "255", "$active[1]": "1", "$active[2]": "0",
		"$locker[0]": "TASK m", "$locker[1]": "ISR i2", "$locker[2]": "NOBODY", "$locker[3]": "ISR m", "$locker[4]": "NOBODY", "$locker[5]": "NOBODY", "$locker[6]": "NOBODY", "$locker[7]": "TASK m", "$locker[8]": "TASK t2",
		"$left[0]": "3", "$left[1]": "0", "$left[2]": "4294967295", "$left[3]": "9",
		"$cycle[0]": "2", "$cycle[1]": "0", "$cycle[2]": "2147483648", "$cycle[3]": "8",
		"$requested[0]": "0", "$requested[1]": "1", "$requested[2]": "1",
	} {
		value(t, wholeFacts(), expr, stands(), want)
	}
}

// P11.4: all that a text asks has a value, and what is a number there is its own.
func TestExpressionsOfAText(t *testing.T) {
	n := 0
	for line := range strings.Lines(textByHand()) {
		_, expr, ok := strings.Cut(line, " = \"")
		expr = strings.TrimSuffix(expr, "\";\n")
		if !ok || !strings.HasPrefix(expr, "$") && !strings.Contains(line, "CEILING") && !strings.Contains(line, "CATEGORY") {
			continue
		}
		want, _ := valueOf(wholeFacts(), expr, stands())
		value(t, wholeFacts(), expr, stands(), want)
		n++
	}
	if n != 1+3*3+9*2+4*2+3*2 {
		t.Errorf("%d expressions", n)
	}
}

// P11.4: numbers at their ends; one below 0 has a minus ahead.
func TestNumbersTold(t *testing.T) {
	o := wholeFacts()
	for n, want := range map[int]string{0: "0", 1: "1", -1: "-1", 9: "9", 10: "10", -10: "-10", math.MaxInt64: "9223372036854775807", math.MinInt64: "-9223372036854775808", 1 << 32: "4294967296", -1 << 32: "-4294967296"} {
		l := stands()
		l.Tasks[1] = api.TaskLook{State: api.TaskState(n), Priority: n, Active: n}
		l.Frames[0].ID = n
		for _, expr := range []string{"$state[1]", "$priority[1]", "$active[1]", "$running"} {
			value(t, o, expr, l, want)
		}
		l = stands()
		l.Tasks[1] = api.TaskLook{State: api.TaskState(n), Priority: 1, Active: 2}
		value(t, o, "$state[1]", l, want)
		value(t, o, "$priority[1]", l, "1")
		value(t, o, "$active[1]", l, "2")
	}
}

// P11.4: $running is the first frame's task alone.
func TestRunning(t *testing.T) {
	o := wholeFacts()
	for kind := api.FrameKind(-1); kind <= 10; kind++ {
		want := "4294967295"
		if kind == api.FTask {
			want = "7"
		}
		for _, above := range [][]api.Frame{nil, {{Kind: api.FTask, ID: 1}}, {{Kind: api.FIsr, ID: 1}, {Kind: api.FTask, ID: 2}}} {
			value(t, o, "$running", api.Look{Frames: append([]api.Frame{{Kind: kind, ID: 7}}, above...)}, want)
			value(t, api.Orti{}, "$running", api.Look{Frames: append([]api.Frame{{Kind: kind, ID: 7}}, above...)}, want)
		}
	}
	for _, l := range []api.Look{{}, {Frames: []api.Frame{}}, {Tasks: []api.TaskLook{{State: api.Running}}}, {Preempted: []int{1}}} {
		value(t, o, "$running", l, "4294967295")
		value(t, api.Orti{}, "$running", l, "4294967295")
	}
}

// P11.4: the first that holds the resource, tasks ahead of ISRs; nobody, if that one is none of the facts'.
func TestLocker(t *testing.T) {
	o := api.Orti{Tasks: []api.OrtiTask{{Name: "t0"}, {Name: "t1"}}, Resources: []api.OrtiResource{{}, {}}, Isrs: []api.OrtiIsr{{Name: "i0"}, {Name: "i1"}}}
	task := func(held ...int) api.TaskLook { return api.TaskLook{Held: held} }
	for _, x := range []struct {
		what  string
		tasks []api.TaskLook
		isrs  [][]int
		want  string
	}{
		{"nobody", nil, nil, "NOBODY"},
		{"nobody holds it", []api.TaskLook{task(), task(0, 2, -1)}, [][]int{{0}, {2}}, "NOBODY"},
		{"a task", []api.TaskLook{task(), task(1)}, [][]int{{}, {}}, "TASK t1"},
		{"a task, not as the last thing", []api.TaskLook{task(2, 1, 0), task()}, nil, "TASK t0"},
		{"two tasks", []api.TaskLook{task(1), task(1)}, nil, "TASK t0"},
		{"an ISR", []api.TaskLook{task(), task(0)}, [][]int{{0}, {0, 1}}, "ISR i1"},
		{"two ISRs", nil, [][]int{{1}, {1}}, "ISR i0"},
		{"both", []api.TaskLook{task(), task(1)}, [][]int{{1}, {}}, "TASK t1"},
		{"a task that there is not", []api.TaskLook{task(), task(), task(1)}, nil, "NOBODY"},
		{"a task that there is not, and an ISR", []api.TaskLook{task(), task(), task(1)}, [][]int{{1}}, "NOBODY"},
		{"a task, and one that there is not", []api.TaskLook{task(), task(1), task(1)}, nil, "TASK t1"},
		{"an ISR that there is not", nil, [][]int{{}, {}, {1}}, "NOBODY"},
		{"an ISR, and one that there is not", nil, [][]int{{}, {1}, {1}}, "ISR i1"},
		{"a task, and an ISR that there is not", []api.TaskLook{task(1)}, [][]int{{}, {}, {1}}, "TASK t0"},
	} {
		l := api.Look{Tasks: x.tasks, Held: x.isrs}
		if value(t, o, "$locker[1]", l, x.want); t.Failed() {
			t.Fatal(x.what)
		}
		noValue(t, o, "$locker[2]", l)
	}
	value(t, api.Orti{Resources: o.Resources}, "$locker[1]", api.Look{Tasks: []api.TaskLook{task(1)}, Held: [][]int{{1}}}, "NOBODY")
	value(t, api.Orti{Resources: o.Resources, Isrs: o.Isrs}, "$locker[1]", api.Look{Held: [][]int{{1}}}, "ISR i0")
	value(t, api.Orti{Resources: o.Resources, Tasks: o.Tasks}, "$locker[1]", api.Look{Held: [][]int{{1}}}, "NOBODY")
}

// P11.4: an ISR is requested, if it is among those that are, in whatever order.
func TestRequested(t *testing.T) {
	o := wholeFacts()
	for _, x := range []struct {
		l    []int
		want string
	}{{nil, "0"}, {[]int{0, 2}, "0"}, {[]int{1}, "1"}, {[]int{9, -1, 2, 1, 0}, "1"}, {[]int{1, 1, 1, 1, 1}, "1"}, {[]int{-1, 3, 257}, "0"}} {
		value(t, o, "$requested[1]", api.Look{Requested: x.l}, x.want)
	}
}

// P11.4: of each word just the list that is asked must be as long as that of the facts.
func TestLists(t *testing.T) {
	// which list of a look each word asks.
	asked := map[string]string{"$state[0]": "tasks", "$priority[0]": "tasks", "$active[0]": "tasks", "$left[0]": "alarms", "$cycle[0]": "alarms", "$locker[0]": "", "$requested[0]": "", "$running": "", "17": "", "-1": ""}
	turns := []struct {
		list string
		turn func(l *api.Look)
	}{
		{"tasks", func(l *api.Look) { l.Tasks = l.Tasks[:2] }},
		{"tasks", func(l *api.Look) { l.Tasks = nil }},
		{"tasks", func(l *api.Look) { l.Tasks = append(l.Tasks, api.TaskLook{}) }},
		{"alarms", func(l *api.Look) { l.Alarms = l.Alarms[:1] }},
		{"alarms", func(l *api.Look) { l.Alarms = nil }},
		{"alarms", func(l *api.Look) { l.Alarms = append(l.Alarms, l.Alarms...) }},
		{"held", func(l *api.Look) { l.Held = nil }},
		{"held", func(l *api.Look) { l.Held = append(l.Held, nil, nil) }},
		{"requested", func(l *api.Look) { l.Requested = nil }},
		{"requested", func(l *api.Look) { l.Requested = []int{0, 1, 2, 3, 4, 5, 6, 7} }},
		{"others", func(l *api.Look) { l.Counters, l.Rings, l.Preempted = []uint32{1}, [][]int{{1}}, []int{1} }},
	}
	for _, x := range turns {
		l := stands()
		x.turn(&l)
		for expr, list := range asked {
			want, e := valueOf(wholeFacts(), expr, l)
			if (e == api.OK) == (list == x.list) {
				t.Fatalf("%q %q %d", expr, x.list, e)
			}
			if list == x.list {
				noValue(t, wholeFacts(), expr, l)
			} else {
				value(t, wholeFacts(), expr, l, want)
			}
		}
	}
}

// P11.4: the number in an expression must be that of something of its kind.
func TestNumberOfNothing(t *testing.T) {
	o, l := wholeFacts(), stands()
	for word, n := range map[string]int{"$state": 3, "$priority": 3, "$active": 3, "$locker": 9, "$left": 4, "$cycle": 4, "$requested": 3} {
		last := string(rune('0' + n - 1))
		want, _ := valueOf(o, word+"["+last+"]", l)
		value(t, o, word+"["+last+"]", l, want)
		for _, s := range []string{string(rune('0' + n)), "10", "99", "-1", "-0", "00", "01", "+1", "1 ", " 1", "", "x", "1x", "0x1", "1.0", "٣", "4294967296", "9223372036854775807", "9223372036854775808", "18446744073709551615", "18446744073709551616", "18446744073709551617", strings.Repeat("1", 99)} {
			noValue(t, o, word+"["+s+"]", l)
		}
		noValue(t, api.Orti{}, word+"[0]", api.Look{})
		noValue(t, api.Orti{}, word+"[0]", l)
	}
	// A look has what the facts have not.
	noValue(t, api.Orti{}, "$state[0]", api.Look{Tasks: []api.TaskLook{{}}})
	noValue(t, api.Orti{}, "$left[0]", api.Look{Alarms: []api.AlarmLook{{}}})
	noValue(t, api.Orti{}, "$requested[0]", api.Look{Requested: []int{0}})
	noValue(t, api.Orti{}, "$locker[0]", api.Look{Held: [][]int{{0}}})
}

// P11.4: a decimal number is itself, whatever the facts and the look.
func TestOwnValues(t *testing.T) {
	for _, s := range []string{"0", "1", "9", "10", "17", "127", "4294967295", "4294967296", "9223372036854775808", "18446744073709551615", "-1"} {
		value(t, wholeFacts(), s, stands(), s)
		value(t, api.Orti{}, s, api.Look{}, s)
		value(t, wholeFacts(), s, api.Look{}, s)
	}
	for _, s := range []string{"-0", "-2", "-10", "-01", "--1", "- 1", "-", "+1", "00", "007", "01", "18446744073709551616", "99999999999999999999", "1 ", " 1", "1\n", "0x1", "1.0", "1e3", "1_0", "٣", "1]", "[1]"} {
		noValue(t, wholeFacts(), s, stands())
	}
}

// P11.4: what is no expression.
func TestNoExpression(t *testing.T) {
	for _, s := range []string{
		"", " ", "$", "[0]", "$[0]", "running", "state[0]", "$running ", " $running", "$running[0]", "$running[]", "$running[", "$runnin", "$runnings", "$RUNNING", "$running\n", "$running\x00", "$$running",
		"$state", "$state[", "$state]", "$state[]", "$state[0", "$state0]", "$state0", "$state(0)", "$state[0]]", "$state[[0]", "$state[[0]]", "$state[0] ", " $state[0]", "$state [0]", "$state[0][0]", "$state[0]\n", "$stat[0]", "$states[0]", "$State[0]", "$state{0}", "$state[0", "$state[0)", "$state[$running]", "$state[0]$state[0]",
		"$locker", "$left", "$cycle", "$requested", "$active", "$priority", "$ceiling[0]", "$kind[0]", "$counter[0]", "TASK m", "NOBODY", "BASIC", "ACTIVATETASK t2", "m", "\"$running\"", "\"17\"", "\xff", strings.Repeat("$state[", 50),
	} {
		noValue(t, wholeFacts(), s, stands())
		noValue(t, api.Orti{}, s, api.Look{})
	}
}

// P11.4: facts that no text has are taken, too; a name is told as it is.
func TestEvalOfAnyFacts(t *testing.T) {
	o := api.Orti{OS: "", Tasks: []api.OrtiTask{{Name: ""}, {Name: "a b"}}, Resources: []api.OrtiResource{{Ceiling: -99}, {}, {}}, Alarms: []api.OrtiAlarm{{}}, Isrs: []api.OrtiIsr{{Name: "\n"}}}
	l := api.Look{Tasks: []api.TaskLook{{Held: []int{0}}, {Held: []int{1}}}, Held: [][]int{{2}}, Alarms: []api.AlarmLook{{Left: 5}}}
	value(t, o, "$locker[0]", l, "TASK ")
	value(t, o, "$locker[1]", l, "TASK a b")
	value(t, o, "$locker[2]", l, "ISR \n")
	value(t, o, "$left[0]", l, "5")
	value(t, o, "$state[1]", l, "0")
}
