package lock_test

import (
	"math"
	"testing"

	"tappet/api"
)

// P19.4: which ISRs go through at which gate.
func TestTakes(t *testing.T) {
	l := made(t, ordinary())
	for _, x := range []struct {
		g             api.Gate
		first, second bool // ISRs of category 1, of category 2
	}{
		{api.Gate{}, true, true},
		{api.Gate{Os: 1}, true, false},
		{api.Gate{Os: 255}, true, false},
		{api.Gate{All: 1}, false, false},
		{api.Gate{All: 255}, false, false},
		{api.Gate{All: 1, Os: 1}, false, false},
		{api.Gate{Shut: true}, false, false},
		{api.Gate{Shut: true, Os: 2}, false, false},
		{api.Gate{Shut: true, All: 2}, false, false},
		{api.Gate{Shut: true, All: 255, Os: 255}, false, false},
	} {
		answers(t, "Put", l.Put(x.g), api.OK)
		gate(t, l, x.g)
		for id, want := range []bool{x.second, x.first, x.second, x.second} {
			takes(t, l, id, want)
		}
		for _, n := range append([]int{4}, beyond...) {
			takes(t, l, n, false)
		}
		gate(t, l, x.g)
	}
}

// P19.4: without ISRs nothing goes through.
func TestTakesNone(t *testing.T) {
	x := examples()
	x.Isrs = nil
	l := made(t, fitted(x))
	for n := -1; n < 3; n++ {
		takes(t, l, n, false)
	}
}

// P19.4: to be shut is no count.
func TestCloseAndOpen(t *testing.T) {
	l := made(t, ordinary())
	answers(t, "Open", l.Open(), api.OK)
	gate(t, l, api.Gate{})
	for range 3 {
		answers(t, "Close", l.Close(), api.OK)
		gate(t, l, api.Gate{Shut: true})
	}
	l.Suspend(true)
	answers(t, "Open", l.Open(), api.OK)
	gate(t, l, api.Gate{All: 1})
	l.Close()
	l.Resume(true)
	gate(t, l, api.Gate{Shut: true})
}

// P19.4: each count by itself, up to 255 and down to 0, and no further.
func TestCounts(t *testing.T) {
	for _, all := range []bool{true, false} {
		of := func(n int) api.Gate {
			if all {
				return api.Gate{All: n, Os: 7, Shut: true}
			}
			return api.Gate{All: 7, Os: n, Shut: true}
		}
		l := made(t, ordinary())
		answers(t, "Put", l.Put(of(0)), api.OK)
		for n := 1; n < 260; n++ {
			answers(t, "Suspend", l.Suspend(all), api.OK)
			gate(t, l, of(min(n, 255)))
		}
		for n := 254; n > -4; n-- {
			answers(t, "Resume", l.Resume(all), api.OK)
			gate(t, l, of(max(n, 0)))
		}
	}
}

// P19.4: Put takes counts of 0 to 255, each of the two; else nothing changes.
func TestPut(t *testing.T) {
	counts := []int{-1, -2, -256, math.MinInt, 256, 257, 511, 1 << 16, 1 << 32, 1<<32 + 1, math.MaxInt, 0, 1, 254, 255}
	kept := api.Gate{All: 3, Os: 4}
	for _, all := range counts {
		for _, os := range counts {
			for _, shut := range []bool{true, false} {
				l := made(t, examples())
				l.Put(kept)
				g, e := api.Gate{Shut: shut, All: all, Os: os}, api.OK
				want := g
				if all < 0 || all > 255 || os < 0 || os > 255 {
					e, want = api.ErrArg, kept
				}
				answers(t, "Put", l.Put(g), e)
				gate(t, l, want)
			}
		}
	}
}

// P19.2, P19.4: the gate and what is held know nothing of one another.
func TestGateApart(t *testing.T) {
	x := ordinary()
	l, b := made(t, x), newBook(x)
	for _, g := range []api.Gate{{Shut: true}, {All: 255}, {Os: 3}, {}} {
		l.Put(g)
		b.gate = g
		gets(t, l, task(1), 0, b.get(task(1), 0))
		l.Enter(1)
		b.enter(1)
		stands(t, l, b)
		releases(t, l, task(1), 0, b.release(task(1), 0))
		stands(t, l, b)
		l.Get(isr(0), 5)
		b.get(isr(0), 5)
		r, _ := b.drop(isr(0))
		drops(t, l, isr(0), r)
		stands(t, l, b)
	}
}
