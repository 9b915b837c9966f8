package kernel_test

import (
	"math"
	"slices"
	"testing"

	"tappet/api"
)

func activates(n int) api.Deed {
	return api.Deed{Action: api.ActionRow{Kind: api.ActTask, Task: n}}
}

func sets(n int, mask uint32) api.Deed {
	return api.Deed{Action: api.ActionRow{Kind: api.ActEvent, Task: n, Mask: mask}}
}

func callsBack(n int) api.Deed {
	return api.Deed{Action: api.ActionRow{Kind: api.ActCallback}, Callback: n}
}

// P22.8: idle where a call would be, and then nothing changes.
func TestEffectIdle(t *testing.T) {
	x := api.Effect{Status: api.EComID, Service: 40, Deeds: []api.Deed{activates(0), callsBack(3)}}
	p := newPair(t, ordinary())
	idles(t, p.effect(t, x), none)
	p.stands(t)
	p.steps(t, start(0), ret(), ret(), call(api.SvShutdownOS), ret())
	idles(t, p.effect(t, x), none)
	p.stands(t)
	y := bare()
	for n := range y.Tasks {
		y.Tasks[n].Auto = 0
	}
	p = newPair(t, y)
	p.step(t, start(0))
	idles(t, p.effect(t, x), none)
	p.stands(t)
}

// P22.8: a status that is not EOK is an error, and the answer's status; the deeds are done nonetheless, in their order.
func TestEffectWithAStatus(t *testing.T) {
	p := at(t, api.LevelTask)
	a := p.effect(t, api.Effect{Status: api.EComLimit, Service: 41, Param: 7, Deeds: []api.Deed{activates(1), callsBack(9), activates(1), sets(4, 4)}})
	is(t, a, api.EComLimit)
	first, second, third := failed(api.EComLimit, 41, 7), failed(api.ELimit, 4, 1), failed(api.EState, 18, 4)
	runs(t, a, first, first)
	runs(t, p.step(t, ret()), second, second)
	runs(t, p.step(t, ret()), third, third)
	runs(t, p.step(t, ret()), callback(9), callback(9))
	runs(t, p.step(t, ret()), task(3))
	if l := p.k.Look(); !slices.Equal(l.Rings[1], []int{1}) {
		t.Errorf("rings: %v", l.Rings)
	}
	p.stands(t)
}

// P22.8: EOK with a service and a parameter is no error; it settles.
func TestEffectThatIsWell(t *testing.T) {
	p := at(t, api.LevelTask)
	a := p.effect(t, api.Effect{Service: 40, Param: 3})
	tells(t, a)
	runs(t, a, task(3))
	a = p.effect(t, api.Effect{Service: 40, Param: 3, Deeds: []api.Deed{activates(4)}})
	tells(t, a)
	runs(t, a, post(3), post(3))
	p.stands(t)
}

// P22.8: statuses, services and parameters of any number.
func TestEffectOfAnyNumber(t *testing.T) {
	for _, n := range append([]int{1, 33, 99}, beyond...) {
		p := at(t, api.LevelTask)
		a := p.effect(t, api.Effect{Status: api.Status(n), Service: n, Param: math.MaxUint32, Deeds: []api.Deed{callsBack(n)}})
		is(t, a, api.Status(n))
		f := failed(api.Status(n), n, math.MaxUint32)
		runs(t, a, f, f)
		runs(t, p.step(t, ret()), callback(n), callback(n))
	}
}

// P22.8: an effect in the error hook: no error joins; what else is done waits.
func TestEffectInTheErrorHook(t *testing.T) {
	p := at(t, api.LevelError)
	a := p.effect(t, api.Effect{Status: api.EComID, Service: 42, Deeds: []api.Deed{activates(4), callsBack(2)}})
	is(t, a, api.EComID)
	runs(t, a, failed(api.EID, 99, 0))
	runs(t, p.step(t, ret()), callback(2), callback(2))
	runs(t, p.step(t, ret()), post(3), post(3))
	p.stands(t)
}

// P22.8: actions that no alarm of these tables could have do nothing, and are no errors.
func TestEffectThatCouldNotBe(t *testing.T) {
	p := at(t, api.LevelTask)
	before := p.b.key()
	var odd []api.Deed
	for _, kind := range append([]int{0, 4, 5, 99}, beyond...) {
		odd = append(odd, api.Deed{Action: api.ActionRow{Kind: api.ActionKind(kind)}, Callback: 2})
	}
	for _, n := range append([]int{6, 7}, beyond...) {
		odd = append(odd, activates(n), sets(n, 1))
		odd = append(odd, api.Deed{Action: api.ActionRow{Kind: api.ActCallback, Task: n}})
	}
	for n, mask := range map[int]uint32{0: 1, 1: 4, 2: math.MaxUint32, 3: 1, 4: 3, 5: 8} {
		odd = append(odd, sets(n, mask), sets(n, 0), sets(n, mask|4|3))
		odd = append(odd, api.Deed{Action: api.ActionRow{Kind: api.ActTask, Task: n, Mask: mask}})
		odd = append(odd, api.Deed{Action: api.ActionRow{Kind: api.ActCallback, Mask: mask}})
	}
	for _, d := range odd {
		a := p.effect(t, api.Effect{Service: 40, Deeds: []api.Deed{d}})
		is(t, a, api.EOK)
		runs(t, a, task(3))
		p.stands(t)
		if p.b.key() != before {
			t.Fatalf("%+v: something was done", d)
		}
	}
	a := p.effect(t, api.Effect{Deeds: append(odd, callsBack(1))})
	runs(t, a, callback(1), callback(1))
	p.stands(t)
}

// P22.8: an alarm's callback and an effect's of the same number are one.
func TestEffectOfAnAlarmsCallback(t *testing.T) {
	p := at(t, api.LevelTask)
	p.steps(t, call(99), call(api.SvGetTaskID))
	p.effect(t, api.Effect{Deeds: []api.Deed{callsBack(2), callsBack(6), callsBack(2), callsBack(6)}})
	for range 9 {
		p.step(t, tick(0)) // the alarm 2 expires
	}
	if m := p.k.Marks(); m.Callbacks != 2 {
		t.Errorf("Marks: %+v", m)
	}
	runs(t, p.step(t, ret()), callback(2), callback(2))
	runs(t, p.step(t, ret()), callback(6), callback(6))
	runs(t, p.step(t, ret()), task(3))
	p.stands(t)
}

// P22.5: effects that no message could bring pass the rooms; all that waits has its turn, in its order.
func TestEffectBeyondTheRooms(t *testing.T) {
	const many = 300
	p := at(t, api.LevelTask)
	x := api.Effect{Status: api.EComID, Service: 40}
	for n := range many {
		x.Deeds = append(x.Deeds, callsBack(100+n), activates(0), callsBack(100+n/2), sets(4, 4))
	}
	first := failed(api.EComID, 40, 0)
	runs(t, p.effect(t, x), first, first)
	errors := 2*many + 1 - 1 // task 0 has one activation left
	m := p.k.Marks()
	if m.Errors != errors || m.Callbacks != many { // many times more than the tables' rooms
		t.Fatalf("Marks: %+v, not %d and %d", m, errors, many)
	}
	p.stands(t)
	q := p.copied()
	p.effect(t, api.Effect{Deeds: []api.Deed{callsBack(7)}})
	q.effect(t, api.Effect{Deeds: []api.Deed{callsBack(8)}})
	p.stands(t)
	r := q.copied()
	for n := range errors - 1 {
		a := p.step(t, ret())
		if a.Run.Kind != api.FError || len(a.Begun) != 1 {
			t.Fatalf("error %d: %+v", n, a)
		}
	}
	runs(t, p.step(t, ret()), callback(100), callback(100))
	p.effect(t, api.Effect{Deeds: []api.Deed{callsBack(100), callsBack(101), callsBack(5)}})
	for n := 1; n < many; n++ {
		runs(t, p.step(t, ret()), callback(100+n), callback(100+n))
	}
	runs(t, p.step(t, ret()), callback(7), callback(7))
	runs(t, p.step(t, ret()), callback(100), callback(100))
	runs(t, p.step(t, ret()), callback(5), callback(5))
	runs(t, p.step(t, ret()), task(3))
	p.stands(t)
	for range errors + many - 1 {
		r.step(t, ret())
	}
	runs(t, r.step(t, ret()), callback(8), callback(8))
	r.stands(t)
	q.stands(t)
	q.step(t, call(api.SvShutdownOS))
	runs(t, q.step(t, ret()), none)
	q.stands(t)
}

// P22.8: the phase is down, and the shutdown hook's routine runs: a call would not be idle.
func TestEffectInTheShutdownHook(t *testing.T) {
	p := at(t, api.LevelShutdown)
	down := api.Frame{Kind: api.FShutdown}
	a := p.effect(t, api.Effect{Status: api.EComID, Service: 40, Deeds: []api.Deed{callsBack(1)}})
	runs(t, a, failed(api.EComID, 40, 0), failed(api.EComID, 40, 0))
	runs(t, p.step(t, ret()), callback(1), callback(1))
	runs(t, p.step(t, ret()), down)
	runs(t, p.step(t, ret()), none)
	p.stands(t)
}

// R3: what is handed in is not changed, and kept nowhere.
func TestEffectIsTheCallers(t *testing.T) {
	p := at(t, api.LevelTask)
	deeds := []api.Deed{callsBack(1), callsBack(2), callsBack(7)}
	kept := slices.Clone(deeds)
	p.effect(t, api.Effect{Deeds: deeds})
	if !slices.Equal(deeds, kept) {
		t.Error("changed:", deeds)
	}
	clear(deeds)
	runs(t, p.step(t, ret()), callback(2), callback(2))
	runs(t, p.step(t, ret()), callback(7), callback(7))
	p.stands(t)
}
