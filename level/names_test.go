package level_test

import (
	"testing"

	"tappet/api"
	"tappet/level"
)

// P17.4: the name of every number of a status, a context, a state; empty of every other one.
func TestNames(t *testing.T) {
	for _, x := range []struct {
		what string
		list string
		many int
		name func(int) string
	}{
		{"Status", printedStatuses, 15, func(n int) string { return level.Status(api.Status(n)) }},
		{"Frame", printedContexts, 8, func(n int) string { return level.Frame(api.FrameKind(n)) }},
		{"State", printedStates, 4, func(n int) string { return level.State(api.TaskState(n)) }},
	} {
		want := listed(t, x.list)
		if len(want) != x.many {
			t.Fatal(x.what, len(want))
		}
		for _, n := range figures() {
			if got := x.name(n); got != want[n] {
				t.Errorf("%s(%d): %q, not %q", x.what, n, got, want[n])
			}
		}
	}
}

// P17.4: api's names of statuses, contexts and states are those numbers.
func TestNamesOfApi(t *testing.T) {
	for s, name := range map[api.Status]string{
		api.EOK: "E_OK", api.EAccess: "E_OS_ACCESS", api.ECallLevel: "E_OS_CALLEVEL", api.EID: "E_OS_ID", api.ELimit: "E_OS_LIMIT",
		api.ENoFunc: "E_OS_NOFUNC", api.EResource: "E_OS_RESOURCE", api.EState: "E_OS_STATE", api.EValue: "E_OS_VALUE",
		api.EMissingEnd: "E_OS_MISSINGEND", api.EDisabled: "E_OS_DISABLEDINT",
		api.EComID: "E_COM_ID", api.EComLength: "E_COM_LENGTH", api.EComLimit: "E_COM_LIMIT", api.EComNoMsg: "E_COM_NOMSG",
	} {
		if got := level.Status(s); got != name {
			t.Errorf("Status(%d): %q, not %q", s, got, name)
		}
	}
	for kind, name := range map[api.FrameKind]string{
		api.FNone: "", api.FTask: "TASK", api.FIsr: "ISR", api.FStartup: "STARTUP", api.FError: "ERROR",
		api.FShutdown: "SHUTDOWN", api.FPre: "PRE", api.FPost: "POST", api.FCallback: "CALLBACK",
	} {
		if got := level.Frame(kind); got != name {
			t.Errorf("Frame(%d): %q, not %q", kind, got, name)
		}
	}
	for s, name := range map[api.TaskState]string{api.Running: "RUNNING", api.Waiting: "WAITING", api.Ready: "READY", api.Suspended: "SUSPENDED"} {
		if got := level.State(s); got != name {
			t.Errorf("State(%d): %q, not %q", s, got, name)
		}
	}
}

// P17.4: the status of a name, letter for letter, E_OK's 0 with true; nothing else is one.
func TestStatusOf(t *testing.T) {
	want := map[string]int{}
	var tried []string
	for n, name := range listed(t, printedStatuses) {
		want[name] = n
		tried = append(append(tried, name), nearly(name)...)
	}
	for _, row := range table(t) {
		tried = append(append(tried, row.name), nearly(row.name)...)
	}
	for _, name := range append(tried, strangers()...) {
		n, there := want[name]
		if got, ok := level.StatusOf(name); int(got) != n || ok != there {
			t.Errorf("StatusOf(%q): %d %v, not %d %v", name, got, ok, n, there)
		}
	}
}

// P17.5: there and back again.
func TestThereAndBack(t *testing.T) {
	for _, s := range level.Services() {
		if n, ok := level.Number(level.Name(s)); n != s || !ok {
			t.Errorf("Number of Name(%d): %d %v", s, n, ok)
		}
		if _, ok := level.StatusOf(level.Name(s)); ok {
			t.Errorf("the name of service %d is one of a status", s)
		}
	}
	for n := range listed(t, printedStatuses) {
		s := api.Status(n)
		if got, ok := level.StatusOf(level.Status(s)); got != s || !ok {
			t.Errorf("StatusOf of Status(%d): %d %v", s, got, ok)
		}
		if _, ok := level.Number(level.Status(s)); ok {
			t.Errorf("the name of status %d is one of a service", s)
		}
	}
}

// P17.5: names differ from one another, of all kinds.
func TestNamesDiffer(t *testing.T) {
	seen := map[string]int{}
	for _, n := range figures() {
		if n < 0 || n > 100 {
			continue
		}
		for _, name := range []string{level.Name(n), level.Status(api.Status(n)), level.Frame(api.FrameKind(n)), level.State(api.TaskState(n))} {
			if name != "" {
				seen[name]++
			}
		}
	}
	if len(seen) != 32+15+8+4 {
		t.Error("names:", len(seen))
	}
	for name, times := range seen {
		if times != 1 {
			t.Error(name, "stands", times, "times")
		}
	}
}
