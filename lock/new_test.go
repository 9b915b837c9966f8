package lock_test

import (
	"testing"

	"tappet/api"
	"tappet/lock"
	"tappet/table"
)

// P19.1: at first nobody holds anything, no task has its internal resource, and the gate is open.
func TestFirst(t *testing.T) {
	for _, x := range []api.Tables{examples(), ordinary()} {
		l := made(t, x)
		gate(t, l, api.Gate{})
		for _, o := range owners(x) {
			holds(t, l, o)
			drops(t, l, o, -1)
			has(t, l, o.ID, false)
		}
		for r := range x.Resources {
			free(t, l, r)
		}
		stands(t, l, newBook(x))
	}
}

// P19.1: tables in which one thing is not so are refused.
func TestNewRefuses(t *testing.T) {
	for what, turn := range map[string]func(x *api.Tables){
		"nothing":                 func(x *api.Tables) { *x = api.Tables{} },
		"no task":                 func(x *api.Tables) { *x = api.Tables{Modes: 1, Frames: 4, Errors: 2} },
		"no mode":                 func(x *api.Tables) { x.Modes = 0 },
		"uses":                    func(x *api.Tables) { x.Uses = 256 },
		"a ring's capacity":       func(x *api.Tables) { x.Rings[0].Capacity++ },
		"a task's ring":           func(x *api.Tables) { x.Tasks[0].Ring = 0 },
		"own falls":               func(x *api.Tables) { x.Tasks[0].Own = []int{1, 0} },
		"own twice":               func(x *api.Tables) { x.Tasks[0].Own = []int{0, 0} },
		"own that is not there":   func(x *api.Tables) { x.Tasks[0].Own = []int{7} },
		"own below 0":             func(x *api.Tables) { x.Tasks[0].Own = []int{-1} },
		"own that is internal":    func(x *api.Tables) { x.Tasks[0].Own = []int{2} },
		"own of a ceiling below":  func(x *api.Tables) { x.Tasks[2].Own = []int{3} },
		"own of nobody's":         func(x *api.Tables) { x.Tasks[0].Own = []int{4} },
		"internal below":          func(x *api.Tables) { x.Tasks[1].Internal = 0 },
		"internal -2":             func(x *api.Tables) { x.Tasks[1].Internal = -2 },
		"internal above":          func(x *api.Tables) { x.Tasks[1].Internal = 128 },
		"a ceiling above":         func(x *api.Tables) { x.Resources[0].Ceiling = 128 },
		"a ceiling below":         func(x *api.Tables) { x.Resources[4].Ceiling = -2 },
		"category 3":              func(x *api.Tables) { x.Isrs[0].Category = 3 },
		"category 1 with own":     func(x *api.Tables) { x.Isrs[2].Category = 1 },
		"one priority twice":      func(x *api.Tables) { x.Isrs[2].Priority = 70 },
		"an ISR's ceiling below":  func(x *api.Tables) { x.Isrs[3].Own = []int{1} },
		"an ISR's own, internal":  func(x *api.Tables) { x.Isrs[3].Own = []int{2} },
		"depth":                   func(x *api.Tables) { x.Depth++ },
		"frames":                  func(x *api.Tables) { x.Frames-- },
		"errors":                  func(x *api.Tables) { x.Errors = 1 },
		"callbacks":               func(x *api.Tables) { x.Callbacks = 1 },
		"a counter":               func(x *api.Tables) { x.Counters = []api.CounterRow{{}} },
		"an alarm of no counter":  func(x *api.Tables) { x.Alarms = []api.AlarmRow{{Action: api.ActionRow{Kind: api.ActTask}}} },
		"a message":               func(x *api.Tables) { x.Messages = []api.MessageRow{{}} },
		"own that is far too big": func(x *api.Tables) { x.Tasks[0].Own = make([]int, 5000) },
	} {
		x := ordinary()
		turn(&x)
		if table.Check(x) == api.OK {
			t.Errorf("%q: Check takes it", what)
		}
		if l, e := lock.New(x); l != nil || e != api.ErrLocks {
			t.Errorf("%q: New: %v %d", what, l, e)
		}
	}
}

// P19.1, P19.2: as many of all as may be; a task and an ISR that have all resources hold all of them at one time.
func TestAsManyAsMayBe(t *testing.T) {
	var x api.Tables
	var all []int
	for r := range api.MaxResources + 1 {
		x.Resources = append(x.Resources, api.ResourceRow{Ceiling: 127 - r})
		if 127-r >= 64 {
			all = append(all, r)
		}
	}
	for n := range api.MaxTasks {
		x.Tasks = append(x.Tasks, api.TaskRow{Priority: n % 64, Internal: -1, Own: append([]int{}, append(all, 64)...)})
	}
	for n := range api.MaxIsrs {
		x.Isrs = append(x.Isrs, api.IsrRow{Category: 2, Priority: 64 + n})
	}
	x.Isrs[0].Own = all
	x = fitted(x)
	l, b := made(t, x), newBook(x)
	for _, o := range []api.Owner{task(255), task(0), isr(0)} {
		_, own := b.row(o)
		for i := range own {
			gets(t, l, o, own[len(own)-1-i], api.EOK)
			b.get(o, own[len(own)-1-i])
		}
		stands(t, l, b)
		runsAt(t, l, o, 127)
		gets(t, l, task(7), 3, api.EAccess)
		gets(t, l, task(256), 3, api.EID)
		gets(t, l, isr(32), 3, api.EID)
		gets(t, l, o, 65, api.EID)
		drops(t, l, o, 0)
		b.drop(o)
		stands(t, l, b)
	}
}

// R1: locks that New did not make: there is no owner, and nothing is changed.
func TestNotMade(t *testing.T) {
	for _, l := range []*lock.Lock{nil, {}, new(lock.Lock)} {
		for range 2 {
			for _, n := range append([]int{0, 1, 2}, beyond...) {
				for _, o := range []api.Owner{task(n), isr(n)} {
					gets(t, l, o, 0, api.EID)
					releases(t, l, o, 0, api.EID)
					drops(t, l, o, -1)
					holds(t, l, o)
					runsAt(t, l, o, -1)
				}
				free(t, l, n)
				answers(t, "Enter", l.Enter(n), api.ErrNil)
				answers(t, "Leave", l.Leave(n), api.ErrNil)
				has(t, l, n, false)
				takes(t, l, n, false)
			}
			for _, all := range []bool{true, false} {
				answers(t, "Suspend", l.Suspend(all), api.ErrNil)
				answers(t, "Resume", l.Resume(all), api.ErrNil)
			}
			answers(t, "Close", l.Close(), api.ErrNil)
			answers(t, "Open", l.Open(), api.ErrNil)
			answers(t, "Put", l.Put(api.Gate{Shut: true, All: 1, Os: 1}), api.ErrNil)
			answers(t, "Put of what may not be", l.Put(api.Gate{All: -1}), api.ErrNil)
			gate(t, l, api.Gate{})
			answers(t, "Reset", l.Reset(), api.ErrNil)
			if l.Copy() != nil {
				t.Error("a copy of nothing")
			}
		}
	}
}
