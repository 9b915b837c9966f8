package tick_test

import (
	"math"
	"slices"
	"testing"

	"tappet/api"
)

// P21.5: requests are told rising, each once, however they came; each is served by itself.
func TestRequests(t *testing.T) {
	b := made(t, ordinary())
	requests(t, b, 4, 1, 4, 0, 4, 4)
	requestedAre(t, b, 0, 1, 4)
	answers(t, "Serve", b.Serve(4), api.OK)
	requestedAre(t, b, 0, 1)
	answers(t, "Serve", b.Serve(4), api.ErrArg)
	answers(t, "Serve", b.Serve(3), api.ErrArg)
	requests(t, b, 3)
	requestedAre(t, b, 0, 1, 3)
	answers(t, "Serve", b.Serve(0), api.OK)
	answers(t, "Serve", b.Serve(1), api.OK)
	requestedAre(t, b, 3)
	requests(t, b, 0)
	requestedAre(t, b, 0, 3)
}

// P21.5: ISRs that are not there; nothing changes.
func TestNoSuchIsr(t *testing.T) {
	p := newPair(t, ordinary())
	p.request(t, 0)
	p.request(t, 3)
	for _, n := range append([]int{5, 6, 7, 8, 31, 32, 33}, beyond...) {
		is(t, "Request", p.b.Request(n), api.EID)
		answers(t, "Serve", p.b.Serve(n), api.ErrArg)
		p.stands(t)
	}
}

// P21.5: each of as many ISRs as may be is requested and served by itself, among all others and alone.
func TestEachOfMany(t *testing.T) {
	b := made(t, isrsOf(32))
	var all []int
	for n := range 32 {
		all = append(all, n)
		requests(t, b, n)
		requestedAre(t, b, all...)
		next(t, b, -1, open, 0)
		next(t, b, 127-n-1, open, 0)
	}
	is(t, "Request", b.Request(32), api.EID)
	for n := range 32 {
		answers(t, "Serve", b.Serve(n), api.OK)
		requestedAre(t, b, slices.Delete(slices.Clone(all), n, n+1)...)
		requests(t, b, n)
	}
	answers(t, "Calm", b.Calm(), api.OK)
	for n := range 32 {
		requests(t, b, n)
		requestedAre(t, b, n)
		next(t, b, 127-n-1, open, n)
		next(t, b, 127-n, open, -1)
		answers(t, "Serve", b.Serve(n), api.OK)
	}
	requestedAre(t, b)
}

// P21.5: Next of all that can be requested, at all levels and gates; it takes nothing away.
func TestNext(t *testing.T) {
	x := ordinary()
	var gates []api.Gate
	for _, all := range []int{0, 1, 255, 256, -1, math.MinInt, math.MaxInt, 1 << 32} {
		for _, os := range []int{0, 1, 255, 256, -1, math.MinInt, math.MaxInt, 1 << 32} {
			gates = append(gates, api.Gate{All: all, Os: os}, api.Gate{Shut: true, All: all, Os: os})
		}
	}
	levels := []int{math.MinInt, -1, 0, 63, 64, 65, 69, 70, 71, 79, 80, 81, 89, 90, 91, 126, 127, 128, math.MaxInt}
	for bits := range 1 << len(x.Isrs) {
		p := newPair(t, x)
		for n := range x.Isrs {
			if bits>>n&1 == 1 {
				p.request(t, n)
			}
		}
		for _, level := range levels {
			for _, g := range gates {
				p.next(t, level, g)
			}
		}
		p.stands(t)
	}
}

// P21.5: served one behind the other by Next they come by falling priority; those that the gate keeps out come when it lets them.
func TestServedByNext(t *testing.T) {
	b := made(t, ordinary())
	requests(t, b, 0, 1, 2, 3, 4)
	for _, x := range []struct {
		g    api.Gate
		want []int
	}{{api.Gate{Os: 3}, []int{1, 3}}, {api.Gate{All: 1}, nil}, {api.Gate{Shut: true}, nil}, {open, []int{4, 0, 2}}} {
		var got []int
		for range 6 { // one more than there are
			n, there := b.Next(0, x.g)
			if !there {
				break
			}
			answers(t, "Serve", b.Serve(n), api.OK)
			got = append(got, n)
		}
		if !slices.Equal(got, x.want) {
			t.Errorf("at %v: %v, not %v", x.g, got, x.want)
		}
	}
}

// P21.2 to P21.5: alarms and requests know nothing of one another.
func TestRequestsApart(t *testing.T) {
	p := newPair(t, ordinary())
	for n := range 5 {
		p.request(t, n)
		p.rel(t, n, 1, 0)
		p.stands(t)
		p.tick(t, n)
		p.stands(t)
		p.serve(t, n)
		p.auto(t, n)
		p.stands(t)
		p.cancel(t, n)
		p.stands(t)
	}
}
