package audit_test

import (
	"testing"

	"tappet/api"
	"tappet/class"
)

// P26.1 to P26.3: all traces of three of these entries behind a start, against the second reading.
func TestAllShortTraces(t *testing.T) {
	c := api.Config{
		CPU: "c", OS: api.Os{Name: "o"}, Modes: []string{"m"},
		Tasks:     []api.Task{{Name: "a", Priority: 1, Activation: 2, Auto: []int{0}, Resources: []int{0}}, {Name: "b", Priority: 2, Activation: 1, Auto: []int{0}}},
		Resources: []api.Resource{{Name: "r", Kind: api.ResStandard}},
		Counters:  []api.Counter{{Name: "k", Max: 2, Base: 1, Min: 1}},
		Alarms:    []api.Alarm{{Name: "a", Action: starts(0), Auto: []int{0}, Time: 2, Cycle: 1}},
		Isrs:      []api.Isr{{Name: "i", Category: 2, Priority: 70}},
	}
	var all []api.Traced
	for _, f := range []api.Frame{none, task(0), task(1), isr(0), hook(api.FPost)} {
		for _, s := range []api.Step{activate(0), chain(0), chain(1), terminate(), ret(), get(0), release(0), setAbs(0, 1, 0), call(api.SvShutdownOS), start(0)} {
			all = append(all, ok(s, f))
		}
		all = append(all, ticked(0, f), ticked(0, f, 0), said(api.ELimit, activate(1), f), idle(terminate(), f))
	}
	// Of the last one what it finds is enough.
	last := []api.Traced{ok(activate(0), none), said(api.ELimit, activate(1), task(1)), ok(get(0), task(0)), ok(release(0), hook(api.FPre)), ticked(0, task(1)), ticked(0, none, 0), ok(ret(), isr(0)), ok(chain(0), task(0))}
	var l [4]api.Traced
	for _, first := range []api.Frame{task(0), task(1), isr(0)} {
		l[0] = ok(start(0), first)
		for _, l[1] = range all {
			for _, l[2] = range all {
				for _, l[3] = range last {
					checked(t, c, of(l[:]...))
				}
			}
		}
	}
}

// greatest is a configuration with as much as may be of what is looked at here.
func greatest() api.Config {
	c := api.Config{CPU: "c", OS: api.Os{Name: "o", Schedule: true}}
	for n := range api.MaxModes {
		c.Modes = append(c.Modes, name(n))
	}
	var all []int
	for n := range api.MaxResources {
		c.Resources = append(c.Resources, api.Resource{Name: name(n), Kind: api.ResStandard})
		all = append(all, n)
	}
	for n := range api.MaxTasks {
		c.Tasks = append(c.Tasks, api.Task{Name: name(n), Priority: n % 64, Full: true, Activation: api.MaxActivate, Auto: []int{n % 8}, Resources: all})
	}
	for n := range api.MaxCounters {
		c.Counters = append(c.Counters, api.Counter{Name: name(n), Max: api.MaxTick, Base: 1, Min: 1})
	}
	for n := range api.MaxAlarms {
		c.Alarms = append(c.Alarms, api.Alarm{Name: name(n), Counter: n % 16, Action: starts(255 - n), Auto: []int{7}, Time: 1 + uint32(n)%2*(api.MaxTick-1), Cycle: 1})
	}
	for n := range api.MaxIsrs {
		c.Isrs = append(c.Isrs, api.Isr{Name: name(n), Category: 2, Priority: 64 + n, Resources: all})
	}
	for n := range api.MaxMessages {
		m := api.Message{Name: name(n), Kind: api.MsgQueued, From: 63, Queue: api.MaxQueue, Action: starts(n)}
		if n == 63 {
			m = api.Message{Name: name(n), Kind: api.MsgSend, Length: 1}
		}
		c.Messages = append(c.Messages, m)
	}
	return c
}

// All numbers of a great configuration, the last ones with them.
func TestGreatest(t *testing.T) {
	c := greatest()
	if v := class.Check(c); v.Code != api.OK {
		t.Fatalf("%+v", v)
	}
	r := of(ok(start(7), isr(31)), ok(get(63), isr(31)), ok(get(63), task(255)), ok(get(64), task(255)), ok(get(64), task(0)), ok(release(64), task(0)))
	for n := range 16 {
		r.Entries = append(r.Entries, ticked(n, task(0), n, n+16, n+48))
	}
	for range 20 {
		r.Entries = append(r.Entries, ok(send(63), isr(31)))
	}
	for n := range uint32(300) {
		r.Entries = append(r.Entries, ok(activate(255), task(0)), ok(activate(n), task(0)), said(api.ELimit, activate(n), task(0)), ok(chain(255), task(int(n))))
	}
	l := checked(t, c, r)
	if len(l) < 300 {
		t.Errorf("only %d findings", len(l))
	}
}

// Long traces, with many windows open at one time.
func TestLongTraces(t *testing.T) {
	c := small()
	r := of(up(task(0)))
	for range api.MaxSteps / 16 {
		r.Entries = append(r.Entries, ok(activate(1), task(0)), ok(activate(2), task(0)))
	}
	checked(t, c, r)
	r = of(ok(start(0), task(0)))
	for range api.MaxSteps / 4 {
		r.Entries = append(r.Entries, ok(activate(2), task(2)), ok(ret(), task(0)), ok(get(0), task(0)), ok(release(0), task(0)))
	}
	if l := checked(t, c, r); len(l) > 0 {
		t.Errorf("found: %q", told(l[:min(len(l), 5)]))
	}
}
