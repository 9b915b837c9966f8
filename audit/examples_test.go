package audit_test

import (
	"testing"

	"tappet/api"
	"tappet/audit"
	"tappet/table"
	"tappet/trace"
)

// example is the configuration of the chapter's examples.
func example() api.Config {
	return api.Config{
		CPU:      "c",
		OS:       api.Os{Name: "o"},
		Modes:    []string{"m"},
		Tasks:    []api.Task{{Name: "low", Priority: 1, Full: true, Activation: 1, Auto: []int{0}}, {Name: "high", Priority: 2, Full: true, Activation: 1}},
		Counters: []api.Counter{{Name: "k", Max: 9, Base: 1, Min: 1}},
		Alarms:   []api.Alarm{{Name: "a", Action: starts(1), Auto: []int{0}, Time: 1}},
	}
}

func recorded(t *testing.T, c api.Config, steps []api.Step) api.Trace {
	t.Helper()
	x, e := table.Make(c)
	if e != api.OK {
		t.Fatal("Make:", e)
	}
	r, e := trace.Record(x, steps)
	if e != api.OK {
		t.Fatal("Record:", e)
	}
	return r
}

func exampleTrace(t *testing.T) api.Trace {
	t.Helper()
	return recorded(t, example(), []api.Step{start(0), call(api.SvSuspendAllInterrupts), tick(0), call(api.SvResumeAllInterrupts), terminate()})
}

func TestExample1(t *testing.T) {
	r := exampleTrace(t)
	finds(t, "example", example(), r)
	waits(t, "example", example(), r, window(0, 0, 0), api.Window{Task: 1, From: 2, To: 3, Lower: 0, Blocked: 1})
}

func TestExample2(t *testing.T) {
	r := exampleTrace(t)
	r.Entries[2].Answer.Expired = nil
	if run := r.Entries[3].Answer.Run; run != task(1) {
		t.Errorf("behind ResumeAllInterrupts %+v runs", run)
	}
	finds(t, "with nothing expired", example(), r, "late 2 0")
	waits(t, "with nothing expired", example(), r, window(0, 0, 0))
}

func TestExample3(t *testing.T) {
	r := exampleTrace(t)
	r.Entries[4].Step = activate(1)
	finds(t, "activated again", example(), r, "limit 4 1")
}

// P26.2, P26.3: a configuration that may not be, whatever the trace.
func TestNoConfiguration(t *testing.T) {
	good := small()
	for n, turn := range []func(c *api.Config){
		func(c *api.Config) { *c = api.Config{} },
		func(c *api.Config) { c.CPU = "" },
		func(c *api.Config) { c.Modes = nil },
		func(c *api.Config) { c.Tasks = nil },
		func(c *api.Config) { c.Tasks[1].Priority = 64 },
		func(c *api.Config) { c.Tasks[1].Auto = []int{7} },
		func(c *api.Config) { c.Resources[1].Link = 2 },
		func(c *api.Config) { c.Alarms[0].Counter = -1 },
		func(c *api.Config) { c.Alarms[0].Action.Task = 99 },
		func(c *api.Config) { c.Isrs[1].Priority = 65 },
		func(c *api.Config) { c.Messages[1].From = 1 },
		func(c *api.Config) { c.Tasks[2].Name = "a" },
	} {
		c := plain(good)
		turn(&c)
		for _, r := range []api.Trace{{}, {Sum: 3}, of(ok(start(0), task(1)), ok(activate(3), task(1)), ok(activate(3), none))} {
			if l, e := audit.Check(c, r); e != api.ErrAudit || len(l) > 0 {
				t.Errorf("configuration %d: Check: %d, %v", n, e, l)
			}
			if l, e := audit.Windows(c, r); e != api.ErrAudit || len(l) > 0 {
				t.Errorf("configuration %d: Windows: %d, %v", n, e, l)
			}
		}
	}
	if api.ErrAudit != 260 {
		t.Error("the error's number:", api.ErrAudit)
	}
}

// Of no entries nothing is told; Sum is not looked at, nor are values and what was begun.
func TestWhatIsLookedAt(t *testing.T) {
	for _, r := range []api.Trace{{}, {Sum: 9}, {Entries: []api.Traced{}}} {
		finds(t, "no entries", small(), r)
		waits(t, "no entries", small(), r)
	}
	r := of(ok(start(0), task(1)), ok(get(0), task(1)), ok(get(0), task(1)), ok(activate(1), none))
	finds(t, "by itself", small(), r, "held 2 0", "limit 3 1", "idle 3 0")
	r.Sum = 7
	for i := range r.Entries {
		a := &r.Entries[i].Answer
		a.V, a.Begun = [3]uint32{1, 2, 3}, []api.Frame{task(0), none}
	}
	finds(t, "with a sum, values, begun ones", small(), r, "held 2 0", "limit 3 1", "idle 3 0")
}
