package audit_test

import (
	"math"
	"testing"

	"tappet/api"
)

// P26.1, SStart: the tasks that start in a mode, rising; of no mode none.
func TestStarts(t *testing.T) {
	c := small()
	waits(t, "mode 0", c, of(ok(start(0), task(1))), window(0, 0, -1), window(1, 0, 0))
	waits(t, "mode 1", c, of(ok(start(1), task(3))), window(1, 0, -1), window(3, 0, 0))
	for _, mode := range append([]int{2}, beyond...) {
		waits(t, "no mode", c, of(ok(start(mode), task(1))))
		finds(t, "no mode, up", c, of(ok(start(mode), task(1)), ok(activate(0), none)), "idle 1 0")
	}
	waits(t, "refused", c, of(said(api.EID, start(0), none)))
	waits(t, "idle", c, of(idle(start(0), none)))
	for _, x := range []api.Traced{said(api.EID, start(0), none), idle(start(0), none), said(api.ELimit, start(9), none), ok(irq(0), none)} {
		finds(t, "not up", c, of(x, ok(activate(0), none)))
	}
	waits(t, "twice", c, of(ok(start(1), none), ok(start(1), none)), api.Window{Task: 1, To: -1, Lower: -1, Other: 1}, api.Window{Task: 3, To: -1, Lower: -1, Other: 1}, window(1, 1, -1), window(3, 1, -1))
	finds(t, "asked twice", c, of(ok(start(1), task(1)), ok(start(1), task(1)), said(api.ELimit, activate(1), task(1))))
}

// P26.1, ActivateTask: by any caller; of a task that there is; answered EOK, and not idle.
func TestActivate(t *testing.T) {
	c := small()
	for _, who := range append(routines(), task(0), task(2), isr(0), isr(1)) {
		waits(t, "by any", c, of(up(who), ok(activate(1), isr(1))), window(1, 1, -1))
	}
	for id := range 4 {
		waits(t, "each", c, of(ok(activate(uint32(id)), none)), window(id, 0, -1))
	}
	for _, id := range []uint32{4, 5, 256, 1 << 31, math.MaxUint32} {
		finds(t, "none", c, of(up(task(0)), ok(activate(id), task(0)), said(api.ELimit, activate(id), task(0))))
		waits(t, "none", c, of(up(task(0)), ok(activate(id), task(0))))
	}
	for s := api.EOK + 1; s < 40; s++ {
		waits(t, "refused", c, of(up(task(0)), said(s, activate(1), task(0))))
	}
	waits(t, "idle", c, of(up(task(0)), idle(activate(1), task(0))))
	waits(t, "no call", c, of(up(task(0)), ok(api.Step{Kind: 6, Service: api.SvActivateTask}, task(0)), ok(api.Step{Kind: api.SIrq, Service: api.SvActivateTask}, task(0)), ok(api.Step{Service: api.SvActivateTask}, task(0))))
}

// P26.2, FindLimit: taken with as many activations as may be, or more; refused with fewer.
func TestLimit(t *testing.T) {
	c := small()
	full := []api.Traced{up(task(0)), ok(activate(2), task(0)), ok(activate(2), task(0)), ok(activate(2), task(0))}
	with := func(l ...api.Traced) api.Trace { return of(append(append([]api.Traced{}, full...), l...)...) }
	finds(t, "three of three", c, with())
	finds(t, "a fourth", c, with(ok(activate(2), task(0)), ok(activate(2), task(0))), "limit 4 2", "limit 5 2")
	finds(t, "a fourth, refused", c, with(said(api.ELimit, activate(2), task(0))))
	finds(t, "a third, refused", c, of(append(append([]api.Traced{}, full[:3]...), said(api.ELimit, activate(2), task(0)), ok(activate(2), task(0)))...), "limit 3 2")
	finds(t, "of another task", c, with(ok(activate(3), task(0)), said(api.ELimit, activate(3), task(0)), ok(activate(3), task(0))), "limit 6 3")
	for _, s := range []api.Status{api.EID, api.ECallLevel, api.EDisabled, api.EResource} {
		finds(t, "refused otherwise", c, with(said(s, activate(2), task(0)), said(s, activate(1), task(0)), said(s, chain(1), task(0))))
	}
	for _, who := range append(routines(), isr(0), isr(1)) {
		finds(t, "activated by any", c, of(up(who), said(api.ELimit, activate(2), who)), "limit 1 2")
		finds(t, "chained by none", c, of(up(who), said(api.ELimit, chain(2), who), ok(chain(2), who), ok(chain(2), who), ok(chain(2), who), ok(chain(2), who)))
	}
	finds(t, "chained", c, with(ok(chain(2), task(0))), "limit 4 2")
	finds(t, "chained, refused", c, with(said(api.ELimit, chain(2), task(0))))
	finds(t, "chained, refused, that may be", c, with(said(api.ELimit, chain(3), task(0))), "limit 4 3")
	finds(t, "chained itself", c, of(up(task(1)), ok(activate(1), task(1)), ok(chain(1), task(1)), said(api.ELimit, chain(1), task(1))))
	finds(t, "chained itself, none", c, of(up(task(1)), said(api.ELimit, chain(1), task(1))))
	finds(t, "idle", c, with(idle(activate(2), task(0)), api.Traced{Step: activate(3), Answer: api.Answer{Status: api.ELimit, Idle: true, Run: task(0)}}))
}

// P26.1, ChainTask: another task is asked, and the caller ends; the caller itself ends and is asked, with as many activations as before.
func TestChain(t *testing.T) {
	c := small()
	waits(t, "another", c, of(up(task(1)), ok(activate(1), task(1)), ok(chain(3), none), ok(activate(1), task(1))), window(1, 1, 1), api.Window{Task: 3, From: 2, To: -1, Lower: -1, Other: 1}, window(1, 3, 3))
	finds(t, "one less", c, of(up(task(1)), ok(activate(1), task(1)), ok(chain(3), task(3)), ok(activate(1), task(3))))
	waits(t, "itself", c, of(up(task(1)), ok(activate(1), task(1)), ok(chain(1), task(1)), ok(chain(1), isr(0)), ok(ret(), task(1))), window(1, 1, 1), window(1, 2, 2), api.Window{Task: 1, From: 3, To: 4, Lower: -1, Other: 1})
	finds(t, "itself, as many", c, of(up(task(1)), ok(activate(1), task(1)), ok(chain(1), task(1)), said(api.ELimit, activate(1), task(1)), ok(activate(1), task(1))), "limit 4 1")
	finds(t, "itself, as many of several", c, of(up(task(2)), ok(activate(2), task(2)), ok(activate(2), task(2)), ok(chain(2), task(2)), ok(activate(2), task(2)), said(api.ELimit, activate(2), task(2))))
	finds(t, "itself, then the end", c, of(up(task(1)), ok(activate(1), task(1)), ok(chain(1), task(1)), ok(terminate(), isr(0)), ok(activate(1), isr(0))))
	for _, id := range []uint32{4, 256, 1 << 31, math.MaxUint32} {
		finds(t, "none", c, of(up(task(1)), ok(activate(1), task(1)), ok(chain(id), isr(0)), said(api.ELimit, activate(1), isr(0))))
		waits(t, "none", c, of(up(task(1)), ok(activate(1), task(1)), ok(chain(id), task(1)), ok(activate(1), task(1))), window(1, 1, 1), window(1, 3, -1))
	}
	for s := api.EOK + 1; s < 12; s++ {
		waits(t, "refused", c, of(up(task(1)), said(s, chain(3), task(1)), said(s, chain(1), task(1))))
		finds(t, "refused", c, of(up(task(1)), ok(activate(1), task(1)), ok(activate(3), task(1)), said(s, chain(3), isr(0)), said(api.ELimit, activate(1), isr(0))))
	}
	waits(t, "idle", c, of(up(task(1)), idle(chain(3), task(1)), idle(chain(1), task(1))))
	for _, who := range append(routines(), isr(0), isr(1)) {
		waits(t, "by none", c, of(up(who), ok(chain(3), who), ok(chain(1), who), ok(chain(0), who)))
	}
	// An ISR is not the task of its number.
	waits(t, "by an ISR", c, of(up(isr(1)), ok(chain(1), isr(1)), ok(activate(1), isr(1))), window(1, 2, -1))
	finds(t, "by an ISR", c, of(up(isr(1)), ok(activate(1), isr(1)), ok(chain(1), isr(1)), said(api.ELimit, activate(1), isr(1))))
}

// P26.1: what ends a task, and what does not.
func TestEnds(t *testing.T) {
	c := small()
	ends := func(what string, x api.Traced, is bool, who api.Frame) {
		t.Helper()
		r := of(ok(irq(0), task(1)), ok(activate(1), who), x, ok(activate(1), isr(0)))
		if is {
			finds(t, what, c, r)
		} else {
			finds(t, what, c, r, "limit 3 1")
		}
	}
	ends("TerminateTask", ok(terminate(), isr(0)), true, task(1))
	for s := api.EOK + 1; s < 12; s++ {
		ends("TerminateTask, refused", said(s, terminate(), isr(0)), false, task(1))
		ends("SReturn, whatever its status", said(s, ret(), isr(0)), true, task(1))
	}
	ends("SReturn", ok(ret(), isr(0)), true, task(1))
	ends("TerminateTask, idle", idle(terminate(), isr(0)), false, task(1))
	ends("SReturn, idle", idle(ret(), isr(0)), false, task(1))
	ends("another service", ok(call(api.SvSchedule), isr(0)), false, task(1))
	ends("another service", ok(call(api.SvWaitEvent), isr(0)), false, task(1))
	for _, who := range append(routines(), isr(0), isr(1), task(0)) {
		ends("TerminateTask by another", ok(terminate(), isr(0)), false, who)
		ends("SReturn by another", ok(ret(), isr(0)), false, who)
	}
	// Not below none: the task ends twice, having been asked once.
	finds(t, "not below none", c, of(up(task(1)), ok(activate(1), task(1)), ok(terminate(), task(1)), ok(terminate(), task(1)), ok(ret(), task(1)), ok(activate(1), task(1)), ok(activate(1), task(1))), "limit 6 1")
}

// P26.1: at which entry leavings are carried out: the first one behind which no routine is on top, or a pre task hook's is; that of the call is one.
func TestCarriedOut(t *testing.T) {
	c := small()
	asks := func(l ...api.Traced) api.Trace {
		return of(append(append([]api.Traced{up(task(1)), ok(activate(1), task(1))}, l...), ok(activate(1), hook(api.FError)))...)
	}
	carries := map[api.FrameKind]bool{api.FNone: true, api.FTask: true, api.FIsr: true, api.FPre: true}
	for k := api.FrameKind(-3); k < 300; k++ {
		for _, id := range []int{0, 1, 99, -1} {
			f := api.Frame{Kind: k, ID: id}
			for _, end := range []api.Traced{ok(terminate(), f), said(api.EMissingEnd, ret(), f), ok(chain(3), f)} {
				want := []string{"limit 3 1"}
				if carries[k] {
					want = nil
				}
				if k == api.FNone && end.Step.Service == api.SvChainTask {
					want = append([]string{"idle 2 3"}, want...)
				}
				finds(t, "at once", c, asks(end), want...)
			}
			want := []string{"limit 4 1"}
			if carries[k] {
				want = nil
			}
			finds(t, "later", c, asks(ok(terminate(), hook(api.FPost)), ok(ret(), f)), want...)
			finds(t, "later, by an idle one", c, asks(ok(terminate(), hook(api.FPost)), idle(ret(), f)), want...)
			finds(t, "later, by a refused one", c, asks(ok(terminate(), hook(api.FPost)), said(api.ECallLevel, get(0), f)), want...)
			finds(t, "later, by no step", c, asks(ok(terminate(), hook(api.FPost)), ok(api.Step{Kind: 9}, f)), want...)
		}
	}
	// A task that leaves is inside until that is carried out, and begins then by the same entry.
	waits(t, "inside meanwhile", c, of(up(task(0)), ok(activate(0), task(0)), ok(activate(0), task(0)), ok(terminate(), hook(api.FPost)), ok(ret(), task(0))),
		window(0, 1, 1), api.Window{Task: 0, From: 2, To: 4, Lower: -1, Above: 1, Other: 1})
	waits(t, "chained itself, meanwhile", c, of(up(task(1)), ok(activate(1), task(1)), ok(chain(1), hook(api.FPost)), ok(ret(), hook(api.FPre)), ok(ret(), task(1))),
		window(1, 1, 1), api.Window{Task: 1, From: 2, To: 4, Lower: -1, Other: 2})
}

// P26.1: whoever runs and is inside closes no window; who runs without a window is not inside.
func TestInside(t *testing.T) {
	c := small()
	waits(t, "inside", c, of(up(task(0)), ok(activate(0), task(0)), ok(activate(0), task(0)), ok(other(), task(0)), idle(other(), task(0))), window(0, 1, 1), api.Window{Task: 0, From: 2, To: -1, Lower: -1, Above: 1, Other: 1})
	waits(t, "preempted, and again", c, of(up(task(0)), ok(activate(0), task(0)), ok(activate(0), task(1)), ok(other(), task(0))), window(0, 1, 1), api.Window{Task: 0, From: 2, To: -1, Lower: -1, Above: 1})
	waits(t, "without a window, asked then", c, of(up(task(1)), ok(other(), task(1)), ok(activate(1), task(1)), ok(activate(1), task(1))), window(1, 2, 2), window(1, 3, -1))
	waits(t, "by an idle entry", c, of(up(none), ok(activate(1), hook(api.FPre)), idle(other(), task(1))), api.Window{Task: 1, From: 1, To: 2, Lower: -1, Other: 1})
	waits(t, "the oldest first", c, of(up(isr(0)), ok(activate(2), isr(0)), ok(activate(1), isr(0)), ok(activate(2), isr(0)), ok(ret(), task(2)), ok(terminate(), task(2)), ok(terminate(), task(1))),
		api.Window{Task: 2, From: 1, To: 4, Lower: -1, Other: 3}, api.Window{Task: 1, From: 2, To: 6, Lower: -1, Above: 2, Other: 2}, api.Window{Task: 2, From: 3, To: 5, Lower: -1, Above: 1, Other: 1})
	for _, f := range append(routines(), isr(1)) {
		waits(t, "no task runs", c, of(up(f), ok(activate(1), f)), window(1, 1, -1))
	}
	// What else a task's frame says counts for nothing.
	odd := api.Frame{Kind: api.FTask, ID: 1, Status: 3, Service: 4, Param: 5}
	waits(t, "a frame with more", c, of(up(odd), ok(activate(1), odd), ok(chain(1), odd)), window(1, 1, 1), window(1, 2, 2))
}

// P26.1, ShutdownOS: nothing is there, all windows that are open are closed without a To.
func TestShutdown(t *testing.T) {
	c := small()
	down := call(api.SvShutdownOS)
	for _, who := range append(routines(), task(0), isr(0)) {
		waits(t, "windows", c, of(up(who), ok(activate(1), who), ok(down, task(1)), ok(other(), task(1)), ok(activate(1), task(1)), ok(other(), task(1))), counted(c, 1, 1, 2, who), window(1, 4, 4))
	}
	before := []api.Traced{up(task(1)), ok(activate(1), task(1)), ok(get(0), task(1)), ok(call(api.SvSetRelAlarm, 3, 1, 1), task(1)), ok(send(0), task(1))}
	behind := func(x api.Traced, l ...api.Traced) api.Trace {
		return of(append(append(append([]api.Traced{}, before...), x), l...)...)
	}
	l := []api.Traced{ok(activate(1), task(1)), ok(get(0), task(1)), ticked(0, task(1)), ok(release(0), task(1))}
	finds(t, "all is gone", c, behind(ok(down, task(1)), l...))
	finds(t, "refused", c, behind(said(api.EAccess, down, task(1)), l...), "limit 6 1", "held 7 0", "late 8 3")
	finds(t, "idle", c, behind(idle(down, task(1)), l...), "limit 6 1", "held 7 0", "late 8 3")
	finds(t, "not up", c, behind(ok(down, none), ok(activate(1), none), ok(ret(), none)))
	finds(t, "up again", c, behind(ok(down, none), up(none), ok(activate(1), none)), "idle 7 1")
	finds(t, "nobody leaves", c, of(up(task(1)), ok(activate(1), task(1)), ok(terminate(), hook(api.FPost)), ok(down, hook(api.FShutdown)), ok(activate(1), none), ok(activate(1), none)), "limit 5 1")
	// Queues and counters are as they were.
	finds(t, "queues", c, of(up(none), ok(send(0), isr(0)), ok(send(0), isr(0)), ok(down, isr(0)), ok(send(0), isr(0)), said(api.ELimit, activate(2), isr(0))), "limit 5 2")
	finds(t, "counters", c, of(up(isr(0)), ticked(0, isr(0)), ticked(0, isr(0)), ok(down, isr(0)), ok(call(api.SvSetAbsAlarm, 1, 4, 0), isr(0)), ticked(0, isr(0)), ticked(0, isr(0))), "late 6 1")
}

// counted is a window without a To that an only entry counts for, of this caller.
func counted(c api.Config, task, from, at int, who api.Frame) api.Window {
	w := window(task, from, -1)
	switch {
	case who.Kind != api.FTask || who.ID < 0 || who.ID >= len(c.Tasks):
		w.Other = at - from
	case c.Tasks[who.ID].Priority >= c.Tasks[task].Priority:
		w.Above = at - from
	default:
		w.Blocked, w.Lower = at-from, who.ID
	}
	return w
}
