package model_test

import (
	"reflect"
	"sync"
	"testing"

	"tappet/api"
	"tappet/model"
)

// wipe writes over everything that a configuration holds.
func wipe(c api.Config) {
	for i := range c.Tasks {
		clear(c.Tasks[i].Auto)
		clear(c.Tasks[i].Resources)
		clear(c.Tasks[i].Events)
		clear(c.Tasks[i].Messages)
	}
	for i := range c.Alarms {
		clear(c.Alarms[i].Auto)
	}
	for i := range c.Isrs {
		clear(c.Isrs[i].Resources)
		clear(c.Isrs[i].Messages)
	}
	clear(c.Modes)
	clear(c.Tasks)
	clear(c.Resources)
	clear(c.Events)
	clear(c.Counters)
	clear(c.Alarms)
	clear(c.Isrs)
	clear(c.Messages)
}

// R3: the configuration is read, kept nowhere and not changed.
func TestConfigurationIsTheCallers(t *testing.T) {
	for seed := range 20 {
		x := ordinary()
		kept := copied(x)
		p := &pair{kept, made(t, x), booted(t, kept), make([]api.AlarmLook, len(x.Alarms))}
		q := p.copied()
		c := chance(seed)
		for range 50 {
			p.step(t, c.step(p.c, p.m.Look()))
		}
		if !reflect.DeepEqual(x, kept) {
			t.Fatal("changed:", x)
		}
		wipe(x)
		for _, r := range []*pair{p, q} {
			for range 200 {
				r.step(t, c.step(r.c, r.m.Look()))
				r.stands(t)
			}
		}
	}
}

// R3: of events only their masks are needed, and late: they are the machine's own, too.
func TestEventsAreTheCallers(t *testing.T) {
	c := bare()
	m := made(t, c)
	wipe(c)
	for _, s := range []api.Step{start(0), call(api.SvActivateTask, 1), call(api.SvTerminateTask), call(api.SvSetRelAlarm, 1, 1, 0), tick(0)} {
		is(t, m.Step(s), api.EOK)
	}
	tells(t, m.Step(call(api.SvGetEvent, 1)), 2)
}

// spoil writes over everything that a look holds.
func spoil(l api.Look) {
	for i := range l.Tasks {
		for n := range l.Tasks[i].Held {
			l.Tasks[i].Held[n] = 99
		}
		l.Tasks[i].Held = append(l.Tasks[i].Held[:0], 98, 97)
	}
	for _, lists := range [][][]int{l.Rings, l.Held, {l.Requested, l.Preempted}} {
		for _, list := range lists {
			for n := range list {
				list[n] = 96
			}
			_ = append(list[:0], 95, 94, 93)
		}
		clear(lists)
	}
	clear(l.Tasks)
	clear(l.Frames)
	clear(l.Counters)
	clear(l.Alarms)
}

// R3: what is told is the caller's own, and no two lists share anything.
func TestToldIsNew(t *testing.T) {
	p := busy(t)
	l, m := p.m.Look(), p.m.Look()
	want := plain(m)
	spoil(l)
	p.stands(t)
	if !reflect.DeepEqual(plain(m), want) {
		t.Errorf("shared: %+v", m)
	}
	for _, list := range append([][]int{m.Requested, m.Preempted}, append(m.Rings, m.Held...)...) {
		_ = append(list, 91, 91)
	}
	_ = append(m.Frames, api.Frame{Kind: 91})
	p.stands(t)
	p.steps(t, ret(), ret(), ret(), ret(), call(api.SvShutdownOS))
	if !reflect.DeepEqual(plain(m), want) {
		t.Errorf("a look that was told changed: %+v", m)
	}
}

// R3: so is what a step answers.
func TestAnswersAreNew(t *testing.T) {
	p := at(t, api.LevelTask)
	p.steps(t, call(api.SvSetRelAlarm, 4, 1, 1), call(api.SvSetRelAlarm, 3, 1, 1))
	first := p.m.Step(tick(1))
	if len(first.Expired) != 2 || len(first.Begun) != 1 {
		t.Fatalf("tick: %+v", first)
	}
	kept := plainAnswer(first)
	clear(first.Expired)
	clear(first.Begun)
	_ = append(first.Begun[:0], api.Frame{Kind: 99}, api.Frame{Kind: 98})
	framesAre(t, p.m, task(3), callback(4))
	p.m.Step(ret())
	second := p.m.Step(tick(1))
	if !reflect.DeepEqual(plainAnswer(second), kept) {
		t.Errorf("%+v, not %+v", second, kept)
	}
}

// P23.3, R4: a copy stands alike, goes its own way, and so does what it was made of.
func TestCopyIsItsOwn(t *testing.T) {
	p := busy(t)
	q := p.copied()
	if q.m == nil || q.m == p.m || q.m.Key() != p.m.Key() {
		t.Fatal("no copy that stands alike")
	}
	q.stands(t)
	before := p.m.Key()
	q.steps(t, tick(1), ret(), tick(0), call(99), ret(), irq(2), ret(), ret(), ret(), ret(), ret())
	if p.m.Key() != before {
		t.Errorf("%s, not %s", p.m.Key(), before)
	}
	p.steps(t, ret(), ret(), ret(), ret(), irq(2), tick(0))
	q.stands(t)
	p.stands(t)
	third := q.copied()
	third.step(t, call(api.SvShutdownOS, 3))
	third.stands(t)
	q.stands(t)
	p.stands(t)
	q.step(t, tick(0)) // ShutdownOS of the other keeps its own counters
	third.stands(t)
}

// R4: what was taken off the stack of the preempted leaves no room that a copy shares.
func TestCopyOfTheStack(t *testing.T) {
	p := up(t, bare(), 0)
	p.steps(t, call(api.SvTerminateTask), call(api.SvActivateTask, 4), call(api.SvTerminateTask)) // 0 runs, and was preempted
	q := p.copied()
	runs(t, p.step(t, call(api.SvActivateTask, 4)), task(4))
	q.steps(t, call(api.SvChainTask, 3), call(api.SvActivateTask, 4))
	for _, r := range []*pair{p, q} {
		r.stands(t)
	}
	runs(t, p.step(t, call(api.SvTerminateTask)), task(0))
	runs(t, q.step(t, call(api.SvTerminateTask)), task(3))
}

// crowd is a configuration with five alarms of one counter, two of a second and two of a third.
func crowd(act func(n int) api.Action) api.Config {
	c := example()
	for n := range 3 {
		c.Counters = append(c.Counters, api.Counter{Name: name(n), Max: 9, Base: 1, Min: 1})
	}
	for n, counter := range []int{0, 0, 0, 0, 0, 1, 1, 2, 2} {
		c.Tasks = append(c.Tasks, api.Task{Name: name(n), Activation: 1, Auto: []int{0}})
		c.Alarms = append(c.Alarms, api.Alarm{Name: name(n), Counter: counter, Action: act(n), Auto: []int{0}, Time: 1})
	}
	return c
}

// R4: so do errors and callbacks that waited: those that wait in a copy are others.
func TestCopyOfWhatWaits(t *testing.T) {
	acts := []func(n int) api.Action{
		func(n int) api.Action { return api.Action{Kind: api.ActTask, Task: 2 + n} },
		func(n int) api.Action { return api.Action{Kind: api.ActCallback, Name: "f"} },
	}
	begins := []func(n int) api.Frame{
		func(n int) api.Frame { return failed(api.ELimit, 4, uint32(2+n)) },
		callback,
	}
	for i, act := range acts {
		p := up(t, crowd(act), 0)
		p.step(t, tick(0))
		for n := 1; n < 5; n++ {
			runs(t, p.step(t, ret()), begins[i](n), begins[i](n))
		}
		runs(t, p.step(t, ret()), task(0))
		q := p.copied()
		runs(t, p.step(t, tick(1)), begins[i](5), begins[i](5))
		runs(t, q.step(t, tick(2)), begins[i](7), begins[i](7))
		runs(t, p.step(t, ret()), begins[i](6), begins[i](6))
		runs(t, q.step(t, ret()), begins[i](8), begins[i](8))
	}
}

// R4: whatever is done to a copy leaves the first as it is, in each of many states; and a copy of a copy is like it.
func TestCopiesByChance(t *testing.T) {
	c := chance(5)
	for range 200 {
		x := c.config()
		p := newPair(t, x)
		for range 60 {
			p.step(t, c.step(x, p.m.Look()))
		}
		before := p.m.Key()
		q := p.copied()
		for range 40 {
			q.step(t, c.step(x, q.m.Look()))
			q.stands(t)
			if p.m.Key() != before {
				t.Fatalf("%s, not %s", p.m.Key(), before)
			}
		}
		p.stands(t)
		after := q.m.Key()
		p.steps(t, ret(), ret(), irq(0), tick(0), call(api.SvShutdownOS))
		if q.m.Key() != after {
			t.Fatalf("%s, not %s", q.m.Key(), after)
		}
	}
}

// R4: two machines of the same configuration know nothing of one another.
func TestTwoMachines(t *testing.T) {
	p, q := busy(t), newPair(t, ordinary())
	q.stands(t)
	q.steps(t, start(1), ret(), irq(1), tick(0), tick(1))
	q.stands(t)
	p.stands(t)
}

// What only tells changes nothing: several may ask at one time; copies go their ways by themselves.
func TestAskedByMany(t *testing.T) {
	p := busy(t)
	var w sync.WaitGroup
	for n := range 4 {
		w.Add(1)
		go func() {
			defer w.Done()
			c := chance(n)
			for range 30 {
				l := p.m.Look()
				m := p.m.Copy()
				for range 20 {
					m.Step(c.step(p.c, l))
				}
				model.Run(p.c, []api.Step{start(0), ret()})
			}
		}()
	}
	w.Wait()
	p.stands(t)
}
