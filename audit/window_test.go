package audit_test

import (
	"math"
	"strconv"
	"testing"

	"tappet/api"
	"tappet/audit"
)

// P26.3: which entries count as what: by the caller, and by the step.
func TestCounts(t *testing.T) {
	c := small()
	for _, x := range []struct {
		what                  string
		who                   api.Frame
		at                    api.Traced
		blocked, above, other int
	}{
		{"a call of a lower one", task(0), ok(other(), isr(1)), 1, 0, 0},
		{"a refused one", task(0), said(api.EResource, terminate(), isr(1)), 1, 0, 0},
		{"a call of no service", task(0), said(api.EID, call(99), isr(1)), 1, 0, 0},
		{"a return", task(0), said(api.EMissingEnd, ret(), isr(1)), 1, 0, 0},
		{"an idle call", task(0), idle(other(), isr(1)), 0, 0, 1},
		{"an idle return", task(0), idle(ret(), isr(1)), 0, 0, 1},
		{"a tick", task(0), ticked(0, isr(1)), 0, 0, 1},
		{"a request", task(0), ok(irq(0), isr(1)), 0, 0, 1},
		{"a start", task(0), said(api.EID, start(0), isr(1)), 0, 0, 1},
		{"no step", task(0), ok(api.Step{Kind: 9}, isr(1)), 0, 0, 1},
		{"no step", task(0), ok(api.Step{}, isr(1)), 0, 0, 1},
		{"a call of its own", task(1), ok(other(), isr(1)), 0, 1, 0},
		{"a call of a higher one", task(2), ok(other(), isr(1)), 0, 1, 0},
		{"a return of a higher one", task(3), ok(ret(), isr(1)), 0, 1, 0},
		{"an idle call of a higher one", task(3), idle(other(), isr(1)), 0, 0, 1},
		{"a tick above a higher one", task(3), ticked(0, isr(1)), 0, 0, 1},
		{"a call of an ISR", isr(0), ok(other(), isr(1)), 0, 0, 1},
		{"a return of an ISR", isr(0), ok(ret(), isr(1)), 0, 0, 1},
	} {
		want := api.Window{Task: 1, From: 1, To: -1, Lower: -1, Blocked: x.blocked, Above: x.above, Other: x.other}
		if x.blocked > 0 {
			want.Lower = x.who.ID
		}
		ahead := ok(activate(1), x.who)
		if x.who == task(1) { // it is not to begin by its own window
			ahead, want.From, want.To = ok(activate(1), task(1)), 2, -1
			waits(t, x.what, c, of(up(task(1)), ahead, ok(activate(1), task(1)), x.at), window(1, 1, 1), want)
			continue
		}
		waits(t, x.what, c, of(up(isr(1)), ahead, x.at), want)
		// With a To that entry counts, and none behind it.
		x.at.Answer.Run = task(1)
		want.To = 2
		waits(t, x.what+", up to its run", c, of(up(isr(1)), ahead, x.at, ok(other(), task(1)), ok(other(), task(0)), ok(other(), task(0))), want)
	}
	for _, who := range routines() {
		waits(t, "a routine's", c, of(up(isr(1)), ok(activate(1), who), ok(other(), isr(1))), api.Window{Task: 1, From: 1, To: -1, Lower: -1, Other: 1})
	}
}

// P26.3: of each window by itself: its entry does not count, all behind it do, up to and with its To.
func TestEachWindow(t *testing.T) {
	c := small()
	r := of(ok(start(0), task(0)), ok(activate(2), task(0)), ok(other(), isr(0)), ok(activate(3), isr(0)), ok(ret(), task(2)), ok(other(), task(2)), ok(terminate(), task(3)), ok(terminate(), task(1)), ok(other(), task(1)))
	waits(t, "several", c, r,
		window(0, 0, 0),
		api.Window{Task: 1, From: 0, To: 7, Lower: 0, Blocked: 2, Above: 3, Other: 2},
		api.Window{Task: 2, From: 1, To: 4, Lower: 0, Blocked: 1, Other: 2},
		api.Window{Task: 3, From: 3, To: 6, Lower: -1, Above: 2, Other: 1})
	waits(t, "to the last one", c, of(ok(start(0), task(0)), ok(other(), task(0)), ok(other(), task(0))), window(0, 0, 0), api.Window{Task: 1, From: 0, To: -1, Lower: 0, Blocked: 2})
	waits(t, "of one entry", c, of(ok(start(0), task(1))), window(0, 0, -1), window(1, 0, 0))
}

// P26.2, P26.3, FindBlocked: behind a second task of lower priority; the first one stays Lower.
func TestBlocked(t *testing.T) {
	c := small()
	r := of(up(task(0)), ok(activate(2), task(0)), ok(activate(3), task(1)), ok(other(), task(0)), ok(other(), task(1)), ok(other(), isr(0)), ok(other(), isr(0)))
	finds(t, "two windows", c, r, "blocked 3 2 1", "blocked 4 3 0", "blocked 5 2 1")
	waits(t, "two windows", c, r, api.Window{Task: 2, From: 1, To: -1, Lower: 0, Blocked: 4, Other: 1}, api.Window{Task: 3, From: 2, To: -1, Lower: 1, Blocked: 3, Other: 1})
	behind := func(l ...api.Traced) api.Trace {
		return of(append([]api.Traced{up(task(0)), ok(activate(3), task(0)), ok(activate(2), task(0)), ok(other(), task(1))}, l...)...)
	}
	finds(t, "in the order of opening", c, behind(ok(other(), task(1))), "blocked 4 3 1", "blocked 4 2 1")
	finds(t, "a return", c, behind(said(api.EMissingEnd, ret(), isr(1))), "blocked 4 3 1", "blocked 4 2 1")
	finds(t, "a refused call", c, behind(said(api.ECallLevel, call(99), isr(1))), "blocked 4 3 1", "blocked 4 2 1")
	for _, x := range []api.Traced{idle(other(), isr(1)), idle(ret(), isr(1)), ticked(0, isr(1)), ok(irq(0), isr(1)), ok(api.Step{Kind: 7}, isr(1))} {
		finds(t, "not a step of its", c, behind(x))
	}
	finds(t, "at its To, and none behind it", c, behind(ok(other(), task(3)), ok(terminate(), task(2)), ok(terminate(), task(0)), ok(other(), task(1)), ok(other(), task(0))), "blocked 4 3 1", "blocked 4 2 1")
	finds(t, "at the shutdown, and none behind it", c, behind(ok(call(api.SvShutdownOS), task(1)), ok(other(), task(1))), "blocked 4 3 1", "blocked 4 2 1")
	finds(t, "its own priority is above", c, of(up(task(0)), ok(activate(2), task(0)), ok(other(), task(3)), ok(other(), task(3)), ok(other(), task(0)), ok(other(), task(0))))
	// What is wrong with the step stands ahead of it, that nobody runs behind it.
	finds(t, "with others", c, behind(ok(release(0), none)), "order 4 0", "blocked 4 3 1", "blocked 4 2 1", "idle 4 3")
	finds(t, "with others", c, behind(ok(get(3), none)), "ceiling 4 3", "blocked 4 3 1", "blocked 4 2 1", "idle 4 3")
	finds(t, "with others", c, behind(said(api.ELimit, activate(0), none)), "limit 4 0", "blocked 4 3 1", "blocked 4 2 1", "idle 4 3")
}

// P26.2, FindIdle: behind an entry, idle or not, nobody runs, and a start is waited for: of the oldest one.
func TestIdle(t *testing.T) {
	c := small()
	finds(t, "idle or not", c, of(up(isr(0)), ok(activate(1), none), idle(other(), none), ticked(0, none), said(api.ECallLevel, other(), none), ok(irq(0), isr(0)), ok(ret(), none)), "idle 1 1", "idle 2 1", "idle 3 1", "idle 4 1", "idle 6 1")
	finds(t, "the oldest", c, of(up(isr(0)), ok(activate(3), isr(0)), ok(activate(1), isr(0)), ok(activate(3), none), ok(irq(0), task(3)), ok(terminate(), none), ok(irq(0), task(1)), ok(terminate(), none)), "limit 3 3", "idle 3 3", "idle 5 1", "idle 7 3")
	finds(t, "none waits", c, of(up(none), ok(irq(0), none), ok(activate(1), task(1)), ok(terminate(), none)))
	finds(t, "a frame with more", c, of(up(isr(0)), ok(activate(1), api.Frame{ID: 7, Status: 3})), "idle 1 1")
	for _, f := range append(routines(), isr(0), task(0)) {
		if f.Kind != api.FNone {
			finds(t, "somebody runs", c, of(up(f), ok(activate(1), f), idle(other(), f)))
		}
	}
	finds(t, "not up", c, of(ok(activate(1), none), idle(other(), none)))
	finds(t, "up by that", c, of(ok(activate(1), none), idle(start(9), none), said(api.EID, start(9), none), up(none)), "idle 3 1")
}

// P26.4: each kind, and such as are none; each number.
func TestTell(t *testing.T) {
	for kind, word := range map[api.FindingKind]string{1: "limit", 2: "held", 3: "ceiling", 4: "order", 5: "late", 6: "early", 8: "idle"} {
		for _, other := range []int{0, 3, -3} {
			tells(t, api.Finding{Kind: kind, Entry: 12, ID: 34, Other: other}, word+" 12 34")
			tells(t, api.Finding{Kind: kind, Entry: -12, ID: -34, Other: other}, word+" -12 -34")
		}
		tells(t, api.Finding{Kind: kind}, word+" 0 0")
	}
	tells(t, api.Finding{Kind: 7, Entry: 12, ID: 34, Other: 56}, "blocked 12 34 56")
	tells(t, api.Finding{Kind: 7, Entry: -12, ID: -34, Other: -56}, "blocked -12 -34 -56")
	tells(t, api.Finding{Kind: 7}, "blocked 0 0 0")
	tells(t, api.Finding{}, "finding 0 0 0 0")
	for _, kind := range append([]int{9, 10, 63, -7}, beyond...) {
		tells(t, api.Finding{Kind: api.FindingKind(kind), Entry: 1, ID: -2, Other: 3}, "finding "+strconv.Itoa(kind)+" 1 -2 3")
	}
	tells(t, api.Finding{Kind: 1, Entry: math.MaxInt, ID: math.MinInt}, "limit 9223372036854775807 -9223372036854775808")
}

func tells(t *testing.T, f api.Finding, want string) {
	t.Helper()
	if s := audit.Tell(f); s != want {
		t.Errorf("%+v: %q, not %q", f, s, want)
	}
}
