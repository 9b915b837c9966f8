package audit_test

import (
	"math"
	"testing"

	"tappet/api"
)

// P26.2, FindCeiling: who may take what, whoever holds it.
func TestCeiling(t *testing.T) {
	c := small()
	may := map[api.Owner][]uint32{{ID: 0}: {0, 1, 4}, {ID: 1}: {0, 4}, {ID: 2}: {3, 4}, {ID: 3}: {4}, {Isr: true, ID: 0}: {0}, {Isr: true, ID: 1}: {}}
	for who, l := range may {
		f := task(who.ID)
		if who.Isr {
			f = isr(who.ID)
		}
		for _, id := range []uint32{0, 1, 2, 3, 4, 5, 6, 64, 256, 1 << 31, math.MaxUint32} {
			want := []string{"ceiling 1 " + digits(int(id))}
			for _, own := range l {
				if own == id {
					want = nil
				}
			}
			finds(t, "taken", c, of(up(f), ok(get(id), f)), want...)
			finds(t, "refused", c, of(up(f), said(api.EAccess, get(id), f), said(api.EID, get(id), f)))
			finds(t, "idle", c, of(up(f), idle(get(id), f)))
		}
	}
	for _, who := range routines() {
		finds(t, "by none", c, of(up(who), ok(get(0), who), ok(get(2), who), ok(get(9), task(0)), ok(get(0), task(0))))
	}
	c.OS.Schedule = false
	finds(t, "without RES_SCHEDULER", c, of(up(task(0)), ok(get(4), task(0)), ok(get(4), task(0)), ok(release(4), task(0))), "ceiling 1 4", "ceiling 2 4", "order 3 4")
}

func digits(n int) string {
	return told([]api.Finding{{Kind: api.FindHeld, ID: n}})[0][len("held 0 "):]
}

// P26.2, FindHeld: whoever holds it, the caller itself too; a linked one is another one. With FindCeiling, behind it.
func TestHeld(t *testing.T) {
	c := small()
	finds(t, "by another task", c, of(up(task(0)), ok(get(0), task(1)), ok(get(0), task(1))), "held 2 0")
	finds(t, "by an ISR", c, of(up(isr(0)), ok(get(0), task(1)), ok(get(0), task(1))), "held 2 0")
	finds(t, "by a task, for an ISR", c, of(up(task(1)), ok(get(0), isr(0)), ok(get(0), isr(0))), "held 2 0")
	finds(t, "by itself", c, of(up(task(1)), ok(get(0), task(1)), ok(get(0), task(1))), "held 2 0")
	finds(t, "below another one", c, of(up(task(1)), ok(get(0), task(1)), ok(get(4), task(0)), ok(get(0), task(0))), "held 3 0")
	finds(t, "RES_SCHEDULER", c, of(up(task(3)), ok(get(4), task(0)), ok(get(4), task(0))), "held 2 4")
	finds(t, "linked", c, of(up(task(0)), ok(get(0), task(0)), ok(get(1), task(0))))
	finds(t, "both", c, of(up(task(0)), ok(get(0), task(3)), ok(get(0), task(3))), "held 2 0", "ceiling 2 0")
	finds(t, "internal", c, of(up(task(1)), ok(get(2), task(1)), ok(get(2), task(1)), ok(release(2), task(1)), ok(get(2), task(1))), "ceiling 1 2", "held 2 2", "ceiling 2 2", "ceiling 4 2")
	finds(t, "none", c, of(up(task(1)), ok(get(7), task(1)), ok(get(7), task(1)), ok(release(7), task(1))), "ceiling 1 7", "ceiling 2 7", "order 3 7")
	finds(t, "refused ones are not held", c, of(up(task(1)), said(api.EAccess, get(0), task(1)), idle(get(0), task(1)), ok(get(0), task(1))))
	for _, who := range routines() {
		finds(t, "none holds", c, of(up(who), ok(get(0), task(1)), ok(get(0), who)))
		finds(t, "none asks", c, of(up(task(1)), ok(get(0), who), ok(get(0), who)))
	}
	odd := api.Frame{Kind: api.FTask, ID: 1, Status: 3}
	finds(t, "a frame with more", c, of(up(odd), ok(get(0), task(1)), ok(get(0), odd), ok(release(0), odd), ok(release(0), odd)), "held 2 0", "order 4 0")
	// The task and the ISR of one number are two.
	finds(t, "two", c, of(up(task(0)), ok(get(0), isr(0)), ok(release(0), isr(0))), "order 2 0")
}

// P26.1, P26.2: ReleaseResource: what was taken last; as often as it was taken.
func TestRelease(t *testing.T) {
	c := small()
	r := func(l ...api.Step) api.Trace {
		x := of(up(task(0)))
		for _, s := range l {
			x.Entries = append(x.Entries, ok(s, task(0)))
		}
		return x
	}
	finds(t, "in order", c, r(get(0), get(1), get(4), release(4), release(1), release(0)))
	finds(t, "not the last", c, r(get(0), get(1), get(4), release(0), release(4), release(1)), "order 4 0")
	finds(t, "not the last, and free then", c, r(get(0), get(1), release(0), get(0), release(0), release(1)), "order 3 0")
	finds(t, "not held", c, r(get(0), release(1), release(0), release(0)), "order 2 1", "order 4 0")
	finds(t, "nothing held", c, r(release(0), release(4), release(9), release(math.MaxUint32)), "order 1 0", "order 2 4", "order 3 9", "order 4 4294967295")
	finds(t, "several times", c, r(get(0), get(0), get(1), get(0), release(0), get(0), release(0), release(1), release(0)), "held 2 0", "held 4 0", "order 9 0")
	finds(t, "taken again, it is the last", c, r(get(0), get(1), get(0), release(0), release(1)), "held 3 0")
	finds(t, "others hold it still", c, of(up(task(0)), ok(get(0), task(1)), ok(get(0), task(1)), ok(release(0), task(0)), ok(release(0), task(1)), ok(get(0), task(1)), ok(release(0), task(1))), "held 2 0")
	finds(t, "one of two holders gives back", c, of(up(task(0)), ok(get(0), task(1)), ok(get(0), task(1)), ok(release(0), isr(0)), ok(get(0), isr(0))), "held 2 0", "held 4 0")
	finds(t, "held by another", c, of(up(task(0)), ok(get(0), task(1)), ok(release(0), task(0)), ok(release(0), task(0))), "order 2 0")
	finds(t, "refused, idle", c, of(up(task(0)), said(api.ENoFunc, release(0), task(0)), idle(release(0), task(0)), ok(get(0), task(0)), said(api.ENoFunc, release(0), task(0)), idle(release(0), task(0)), ok(release(0), task(0))))
	for _, who := range routines() {
		finds(t, "by none", c, of(up(task(0)), ok(get(0), who), ok(release(0), task(0)), ok(release(0), task(0))), "order 2 0")
	}
}

// P26.1: at its return a task, and an ISR, holds nothing; when a task ends otherwise it holds what it held.
func TestGivenBack(t *testing.T) {
	c := small()
	for _, s := range []api.Status{api.EOK, api.EMissingEnd, api.ECallLevel} {
		finds(t, "a task", c, of(up(task(0)), ok(get(0), task(0)), ok(get(1), task(0)), said(s, ret(), task(0)), ok(get(1), task(0)), ok(get(0), task(0)), ok(release(0), task(0))))
		finds(t, "an ISR", c, of(up(isr(0)), ok(get(0), isr(0)), said(s, ret(), task(1)), ok(get(0), task(1))))
	}
	finds(t, "idle", c, of(up(task(0)), ok(get(0), task(0)), idle(ret(), task(0)), ok(get(0), task(0))), "held 3 0")
	for _, s := range []api.Step{terminate(), chain(0), chain(1)} {
		finds(t, "ended by a call", c, of(up(task(0)), ok(get(0), task(0)), ok(s, task(1)), ok(get(0), task(1))), "held 3 0")
	}
	for _, who := range append(routines(), task(1), isr(0)) {
		finds(t, "of another", c, of(up(task(0)), ok(get(0), who), ok(ret(), isr(0)), ok(get(0), isr(0))), "held 3 0")
	}
	finds(t, "of the ISR of its number", c, of(up(task(0)), ok(get(0), isr(0)), ok(ret(), task(1)), ok(get(0), task(1))), "held 3 0")
}
