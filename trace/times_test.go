package trace_test

import (
	"math"
	"slices"
	"testing"

	"tappet/api"
	"tappet/trace"
)

// near are frames that differ in one field each, or are a task's but for one.
func near() []api.Frame {
	return []api.Frame{
		none,
		task(0),
		task(1),
		{Kind: api.FTask, Status: 1},
		{Kind: api.FTask, Service: 1},
		{Kind: api.FTask, Param: 1},
		{Kind: api.FIsr},
		{Kind: api.FPre},
	}
}

// P25.4: all rows of up to five of these frames.
func TestAllShortTraces(t *testing.T) {
	frames := near()
	var all func(l []api.Frame)
	all = func(l []api.Frame) {
		tells(t, running(l...), 2)
		if len(l) == 5 || t.Failed() {
			return
		}
		for _, f := range frames {
			all(append(l[:len(l):len(l)], f))
		}
	}
	all(nil)
}

// P25.4, P25.5: traces by chance, with few frames that change seldom; what follows of stretches.
func TestLongTraces(t *testing.T) {
	c := chance(6)
	for range 400 {
		var l []api.Frame
		f := none
		for range c.below(200) {
			if c.one(1 + c.below(5)) {
				f = near()[c.below(8)]
			}
			if c.one(50) {
				f = c.frame()
			}
			l = append(l, f)
		}
		r := running(l...)
		tells(t, r, c.below(5))
		lie(t, r)
	}
}

// lie: P25.5: end to end from the entry 0 to the last one, none empty, no two neighbours alike.
func lie(t *testing.T, r api.Trace) {
	t.Helper()
	l := trace.Stretches(r)
	at := 0
	for i, s := range l {
		if s.From != at || s.To <= s.From || i > 0 && l[i-1].Run == s.Run {
			t.Fatalf("stretch %d: %+v, in %s", i, s, short(l))
		}
		at = s.To
	}
	if at != len(r.Entries) {
		t.Fatalf("the last one ends at %d of %d", at, len(r.Entries))
	}
}

// P25.4: fields of frames that no number here can be as great as, and below 0: what is alike is, what is another is.
func TestFramesFarOff(t *testing.T) {
	var l []api.Frame
	for _, n := range beyond {
		l = append(l, task(n), task(n), api.Frame{Kind: api.FrameKind(n)}, api.Frame{Kind: api.FTask, Status: api.Status(n)}, api.Frame{Kind: api.FTask, Service: n})
	}
	r := running(l...)
	for _, tasks := range []int{0, 1, 2, 256} {
		tells(t, r, tasks)
	}
	if u := trace.Uses(r, 256); slices.ContainsFunc(u, func(u api.Use) bool { return u != api.Use{} }) {
		t.Errorf("Uses: %+v", u)
	}
	lie(t, r)
}

// P25.4: how many tasks are told.
func TestHowManyTasks(t *testing.T) {
	var l []api.Frame
	for id := range 300 {
		l = append(l, task(id), none)
	}
	r := running(l...)
	for n, want := range map[int]int{-1: 0, 0: 0, 1: 1, 2: 2, 255: 255, 256: 256, 257: 256, 300: 256, 65536: 256, math.MaxInt: 256, math.MinInt: 0, math.MaxInt32: 256, math.MinInt32: 0} {
		u := trace.Uses(r, n)
		if len(u) != want {
			t.Errorf("%d tasks: %d", n, len(u))
		}
		for id, x := range u {
			if x != (api.Use{Starts: 1, Steps: 1}) {
				t.Errorf("%d tasks: of %d %+v", n, id, x)
			}
		}
		if u := trace.Uses(api.Trace{}, n); len(u) != want || slices.ContainsFunc(u, func(u api.Use) bool { return u != api.Use{} }) {
			t.Errorf("%d tasks of no entries: %+v", n, u)
		}
	}
	tells(t, r, 300)
}

// P25.4: of no entries there is no stretch; of one there is one, be it that nobody runs.
func TestFewEntries(t *testing.T) {
	for _, r := range []api.Trace{{}, {Sum: 3}, {Entries: []api.Traced{}}} {
		if l := trace.Stretches(r); len(l) > 0 {
			t.Errorf("Stretches: %+v", l)
		}
	}
	for _, f := range near() {
		if l := trace.Stretches(running(f)); !slices.Equal(l, []api.Stretch{{Run: f, From: 0, To: 1}}) {
			t.Errorf("Stretches: %+v", l)
		}
		if l := trace.Stretches(running(f, f, f)); !slices.Equal(l, []api.Stretch{{Run: f, From: 0, To: 3}}) {
			t.Errorf("Stretches: %+v", l)
		}
	}
}

// P25.4: what is on top is told by the answers' Run alone, idle ones with it.
func TestRunAlone(t *testing.T) {
	c := chance(7)
	for range 200 {
		r := c.trace(20)
		for i := range r.Entries {
			r.Entries[i].Answer.Run = near()[c.below(3)]
		}
		var l []api.Frame
		for _, x := range r.Entries {
			l = append(l, x.Answer.Run)
		}
		bare := running(l...)
		if !slices.Equal(trace.Stretches(r), trace.Stretches(bare)) || !slices.Equal(trace.Uses(r, 3), trace.Uses(bare, 3)) {
			t.Fatalf("others: %s", short(r))
		}
		tells(t, r, 3)
	}
}
