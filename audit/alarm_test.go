package audit_test

import (
	"math"
	"slices"
	"testing"

	"tappet/api"
)

func setRel(alarm, left, cycle uint32) api.Step { return call(api.SvSetRelAlarm, alarm, left, cycle) }
func setAbs(alarm, then, cycle uint32) api.Step { return call(api.SvSetAbsAlarm, alarm, then, cycle) }
func cancel(alarm uint32) api.Step              { return call(api.SvCancelAlarm, alarm) }

// expiries are at which of so many silent ticks of a counter an alarm is late; they must be all that is found.
func expiries(t *testing.T, what string, c api.Config, counter, alarm, ticks int, ahead ...api.Traced) []int {
	t.Helper()
	r := of(ahead...)
	for range ticks {
		r.Entries = append(r.Entries, ticked(counter, isr(1)))
	}
	var l []int
	for _, f := range checked(t, c, r) {
		if f.Kind != api.FindLate || f.ID != alarm {
			t.Errorf("%s: %q", what, told([]api.Finding{f}))
		}
		l = append(l, f.Entry-len(ahead)+1)
	}
	return l
}

func every(from, step, most int) []int {
	var l []int
	for n := from; n <= most; n += step {
		l = append(l, n)
		if step == 0 {
			break
		}
	}
	return l
}

// P26.1, SetRelAlarm: so many ticks, and then every cycle; by any caller.
func TestSetRel(t *testing.T) {
	c := small()
	for left := range uint32(13) {
		for cycle := range uint32(5) {
			want := every(max(int(left), 1), int(cycle), 12)
			if left > 12 {
				want = nil
			}
			if l := expiries(t, "rel", c, 0, 1, 12, ok(setRel(1, left, cycle), isr(1))); !slices.Equal(l, want) {
				t.Errorf("%d, %d: %v, not %v", left, cycle, l, want)
			}
		}
	}
	for _, who := range append(routines(), task(0), isr(0)) {
		if l := expiries(t, "by any", c, 0, 1, 9, up(who), ok(setRel(1, 3, 4), isr(1))); !slices.Equal(l, []int{3, 7}) {
			t.Errorf("by %+v: %v", who, l)
		}
	}
	for _, n := range []uint32{10, math.MaxInt32, 1 << 31, math.MaxUint32} {
		if l := expiries(t, "far off", c, 0, 1, 9, ok(setRel(1, n, n), isr(1))); len(l) > 0 {
			t.Errorf("%d: %v", n, l)
		}
		if l := expiries(t, "a far cycle", c, 0, 1, 9, ok(setRel(1, 2, n), isr(1))); !slices.Equal(l, []int{2}) {
			t.Errorf("%d: %v", n, l)
		}
	}
	if l := expiries(t, "set again", c, 0, 1, 9, ok(setRel(1, 3, 4), isr(1)), ok(setRel(1, 5, 0), isr(1))); !slices.Equal(l, []int{5}) {
		t.Error("set again:", l)
	}
}

// P26.1, SetAbsAlarm: at each value of the counter, each value.
func TestSetAbs(t *testing.T) {
	c := small()
	for ticks := range 24 {
		for then := range uint32(12) {
			ahead := []api.Traced{up(isr(1))}
			for range ticks {
				ahead = append(ahead, ticked(0, isr(1)))
			}
			left := 1
			for (ticks+left)%10 != int(min(then, 9)) {
				left++
			}
			for _, cycle := range []int{0, 4} {
				l := expiries(t, "abs", c, 0, 1, 15, append(ahead, ok(setAbs(1, then, uint32(cycle)), isr(1)))...)
				if want := every(left, cycle, 15); !slices.Equal(l, want) {
					t.Errorf("at %d, %d, %d: %v, not %v", ticks, then, cycle, l, want)
				}
			}
		}
	}
	for _, then := range []uint32{10, 1 << 31, math.MaxUint32} {
		if l := expiries(t, "above", c, 1, 2, 9, ok(setAbs(2, then, 0), isr(1))); !slices.Equal(l, []int{3}) {
			t.Errorf("%d counts as 3: %v", then, l)
		}
	}
	// Counters as long as may be, behind one tick: the value 1 is a whole round away.
	c.Counters[0].Max = math.MaxInt32
	for then, want := range map[uint32][]int{0: nil, 1: nil, 2: {1}, 9: {8}, math.MaxInt32: nil, math.MaxUint32: nil} {
		if l := expiries(t, "long", c, 0, 1, 9, ticked(0, isr(1)), ok(setAbs(1, then, 0), isr(1))); !slices.Equal(l, want) {
			t.Errorf("%d: %v, not %v", then, l, want)
		}
	}
	c.Counters[1].Max = 1
	for then, want := range []int{2, 1, 1} {
		if l := expiries(t, "short", c, 1, 2, 5, ok(setAbs(2, uint32(then), 0), isr(1))); !slices.Equal(l, []int{want}) {
			t.Errorf("%d: %v, not %d", then, l, want)
		}
	}
}

// P26.1: an alarm that is cancelled, refused settings, alarms and counters that there are not.
func TestCancel(t *testing.T) {
	c := small()
	set := ok(setRel(1, 3, 2), isr(1))
	if l := expiries(t, "cancelled", c, 0, 1, 9, set, ok(cancel(1), isr(1))); len(l) > 0 {
		t.Error("cancelled:", l)
	}
	if l := expiries(t, "cancelled and set", c, 0, 1, 9, set, ok(cancel(1), isr(1)), ok(setRel(1, 4, 0), isr(1))); !slices.Equal(l, []int{4}) {
		t.Error("cancelled and set:", l)
	}
	for _, x := range []api.Traced{
		said(api.ENoFunc, cancel(1), isr(1)), idle(cancel(1), isr(1)), ok(cancel(0), isr(1)), ok(cancel(4), isr(1)), ok(cancel(math.MaxUint32), isr(1)),
		said(api.EState, setRel(1, 5, 5), isr(1)), idle(setRel(1, 5, 5), isr(1)), ok(setRel(4, 5, 5), isr(1)), ok(setRel(math.MaxUint32, 1, 1), isr(1)),
		said(api.EValue, setAbs(1, 5, 5), isr(1)), idle(setAbs(1, 5, 5), isr(1)), ok(setAbs(4, 5, 5), isr(1)), ok(setAbs(1<<31, 1, 1), isr(1)),
		ok(call(api.SvGetAlarm, 1), isr(1)), ok(call(api.SvGetAlarmBase, 1), isr(1)),
		ticked(1, isr(1)), said(api.EID, tick(0), isr(1)), idle(tick(0), isr(1)), ok(irq(0), isr(1)), ticked(2, isr(1)), ticked(-1, isr(1)),
	} {
		if l := expiries(t, "left as it was", c, 0, 1, 9, set, x); !slices.Equal(l, []int{3, 5, 7, 9}) {
			t.Errorf("%+v: %v", x, l)
		}
	}
	for _, n := range beyond {
		finds(t, "no counter", c, of(set, ticked(n, isr(1), 0, 7, -1)))
		waits(t, "no counter", c, of(set, ticked(n, isr(1), 0, 3)))
	}
}

// P26.1: alarms that start in a mode, with the counters as they are.
func TestAlarmsOfModes(t *testing.T) {
	c := small()
	late := func(mode int, want ...string) {
		t.Helper()
		r := of(ok(start(mode), isr(1)))
		for range 6 {
			r.Entries = append(r.Entries, ticked(0, isr(1)), ticked(1, isr(1)))
		}
		finds(t, "a mode", c, r, want...)
	}
	late(0, "late 3 0", "late 3 1", "late 9 0")
	late(1, "late 3 1")
	late(2)
	late(-1)
	finds(t, "refused", c, of(said(api.EID, start(0), isr(1)), idle(start(0), isr(1)), ticked(0, isr(1)), ticked(0, isr(1))))
	finds(t, "anew", c, of(ok(start(0), isr(1)), ticked(0, isr(1)), ok(start(0), isr(1)), ticked(0, isr(1)), ticked(0, isr(1), 0)), "late 4 1")
}

// P26.2, FindLate and FindEarly: rising, and in the answer's order.
func TestTold(t *testing.T) {
	c := small()
	due := func(l ...int) api.Trace {
		return of(up(isr(1)), ok(setRel(0, 1, 3), isr(1)), ok(setRel(1, 1, 0), isr(1)), ok(setRel(3, 2, 0), isr(1)), ok(setRel(2, 1, 1), isr(1)), ticked(0, isr(1), l...))
	}
	finds(t, "both", c, due(0, 1))
	finds(t, "the other way round", c, due(1, 0))
	finds(t, "none", c, due(), "late 5 0", "late 5 1")
	finds(t, "one", c, due(1), "late 5 0")
	finds(t, "one", c, due(0), "late 5 1")
	finds(t, "not due", c, due(3, 0, 1), "early 5 3")
	finds(t, "of another counter", c, due(0, 2, 1), "early 5 2")
	finds(t, "not set", c, of(up(isr(1)), ticked(0, isr(1), 0)), "early 1 0")
	finds(t, "twice", c, due(0, 1, 0, 1, 1), "early 5 0", "early 5 1", "early 5 1")
	finds(t, "none there", c, due(4, 1, -1, 0, 64, math.MaxInt, math.MinInt), "early 5 4", "early 5 -1", "early 5 64", "early 5 9223372036854775807", "early 5 -9223372036854775808")
	finds(t, "all", c, due(3, 2, 1, 1, 9), "late 5 0", "early 5 3", "early 5 2", "early 5 1", "early 5 9")
	finds(t, "not due, twice", c, due(3, 0, 3, 1), "early 5 3", "early 5 3")
	for s := api.EOK + 1; s < 11; s++ {
		x := due(3)
		x.Entries[5].Answer.Status = s
		finds(t, "refused", c, x)
	}
	x := due(3)
	x.Entries[5].Answer.Idle = true
	finds(t, "idle", c, x)
	x = due(3)
	x.Entries[5].Step = irq(0)
	finds(t, "no tick", c, x)
	// What was due and not told goes on all the same; so does what was told and not due.
	finds(t, "on", c, of(up(isr(1)), ok(setRel(0, 2, 2), isr(1)), ticked(0, isr(1), 0), ticked(0, isr(1)), ticked(0, isr(1)), ticked(0, isr(1), 0), ticked(0, isr(1)), ticked(0, isr(1), 0)), "early 2 0", "late 3 0")
}

// P26.1: what those alarms do that are told: as often as they are, in order, as long as there is room; be they due or not, and of whatever counter.
func TestExpired(t *testing.T) {
	c := small()
	waits(t, "in order", c, of(up(isr(1)), ticked(0, isr(1), 3, 2, 0)), window(1, 1, -1), window(3, 1, -1), window(2, 1, -1))
	waits(t, "as often as told", c, of(up(isr(1)), ticked(0, isr(1), 0, 3, 0)), window(2, 1, -1), window(1, 1, -1), window(2, 1, -1))
	waits(t, "as long as there is room", c, of(up(isr(1)), ticked(1, isr(1), 0, 0, 0, 0, 0, 3, 3)), window(2, 1, -1), window(2, 1, -1), window(2, 1, -1), window(1, 1, -1))
	waits(t, "others", c, of(up(isr(1)), ticked(0, isr(1), 1, 4, -1, 64, math.MaxInt)))
	waits(t, "refused", c, of(up(isr(1)), api.Traced{Step: tick(0), Answer: api.Answer{Status: api.EID, Run: isr(1), Expired: []int{0}}}))
	waits(t, "idle", c, of(up(isr(1)), api.Traced{Step: tick(0), Answer: api.Answer{Idle: true, Run: isr(1), Expired: []int{0}}}))
	waits(t, "no tick", c, of(up(isr(1)), api.Traced{Step: irq(0), Answer: api.Answer{Run: isr(1), Expired: []int{0}}}))
	// The limit is asked with what was asked otherwise.
	waits(t, "one is there", c, of(up(isr(1)), ok(activate(1), isr(1)), ticked(0, isr(1), 3)), api.Window{Task: 1, From: 1, To: -1, Lower: -1, Other: 1})
	finds(t, "and counts", c, of(up(isr(1)), ok(setRel(3, 1, 0), isr(1)), ticked(0, isr(1), 3), said(api.ELimit, activate(1), isr(1)), ok(activate(1), isr(1))), "limit 4 1")
	c.Tasks[1].Events = []int{0}
	c.Events = []api.Event{{Name: "e", Mask: 1}}
	c.Alarms[3].Action = api.Action{Kind: api.ActEvent, Task: 1}
	waits(t, "an event", c, of(up(isr(1)), ticked(0, isr(1), 3)))
}
