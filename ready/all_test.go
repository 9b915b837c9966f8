package ready_test

import (
	"iter"
	"slices"
	"testing"

	"tappet/api"
	"tappet/ready"
)

// three rings with five ids, one ring going round its room's end.
func filled(t *testing.T) (*ready.Queue, []api.Queued) {
	t.Helper()
	q := made(t, [2]int{63, 2}, [2]int{20, 3}, [2]int{10, 1}, [2]int{0, 2})
	tail(t, q, 20, 9, 9, 1)
	takes(t, q, 20, 9, 9)
	tail(t, q, 20, 2)
	head(t, q, 20, 0)
	tail(t, q, 63, 3)
	tail(t, q, 0, 4)
	return q, []api.Queued{{Priority: 63, ID: 3}, {Priority: 20, ID: 0}, {Priority: 20, ID: 1}, {Priority: 20, ID: 2}, {Priority: 0, ID: 4}}
}

// P13.4: All left behind each number of ids, and gone through again; the queue stays as it is.
func TestAllLeftEarly(t *testing.T) {
	q, want := filled(t)
	all := q.All()
	for stop := range len(want) + 1 {
		var seen []api.Queued
		for x := range all {
			if len(seen) == stop {
				break
			}
			seen = append(seen, x)
		}
		if !slices.Equal(seen, want[:stop]) {
			t.Errorf("left behind %d: %v", stop, seen)
		}
		for range 2 {
			if l := slices.Collect(all); !slices.Equal(l, want) {
				t.Errorf("again: %v", l)
			}
		}
	}
	if q.Len() != len(want) {
		t.Error("Len:", q.Len())
	}
}

// P13.4: nothing is yielded behind a no.
func TestAllStops(t *testing.T) {
	q, want := filled(t)
	for stop := 1; stop <= len(want); stop++ {
		n := 0
		q.All()(func(api.Queued) bool {
			n++
			return n < stop
		})
		if n != stop {
			t.Errorf("asked to stop at %d, went to %d", stop, n)
		}
	}
}

// P13.4: what there was when the ranging began, which need not be when All was called.
func TestAllBeginsLate(t *testing.T) {
	q := made(t, [2]int{2, 2}, [2]int{1, 2})
	all := q.All()
	if l := slices.Collect(all); len(l) != 0 {
		t.Error("of nothing:", l)
	}
	tail(t, q, 1, 5)
	tail(t, q, 2, 6)
	if l := slices.Collect(all); !slices.Equal(l, []api.Queued{{Priority: 2, ID: 6}, {Priority: 1, ID: 5}}) {
		t.Error("put meanwhile:", l)
	}
	q.Take()
	if l := slices.Collect(all); !slices.Equal(l, []api.Queued{{Priority: 1, ID: 5}}) {
		t.Error("taken meanwhile:", l)
	}
	c := q.Copy()
	q.Clear()
	if l := slices.Collect(all); len(l) != 0 {
		t.Error("cleared:", l)
	}
	holds(t, c, [2]int{1, 5})
}

// P13.4: whatever is done to the queue meanwhile, also to rings that the ranging has not come to; also by ranging within.
func TestAllMeanwhile(t *testing.T) {
	for name, do := range map[string]func(q *ready.Queue){
		"Take":   func(q *ready.Queue) { q.Take() },
		"Tail":   func(q *ready.Queue) { q.Tail(0, 70); q.Tail(10, 71); q.Tail(63, 72) },
		"Head":   func(q *ready.Queue) { q.Head(0, 73); q.Head(10, 74); q.Head(63, 75) },
		"turn":   func(q *ready.Queue) { x, _ := q.Take(); q.Tail(x.Priority, 76) },
		"down":   func(q *ready.Queue) { x, _ := q.Take(); q.Tail(0, x.ID) },
		"Clear":  func(q *ready.Queue) { q.Clear() },
		"refill": func(q *ready.Queue) { q.Clear(); q.Tail(20, 77); q.Tail(20, 78); q.Tail(0, 79) },
	} {
		q, want := filled(t)
		var seen []api.Queued
		for x := range q.All() {
			seen = append(seen, x)
			do(q)
			now := slices.Collect(q.All())
			var within []api.Queued
			for x := range q.All() {
				within = append(within, x)
				do(q)
			}
			if !slices.Equal(now, within) {
				t.Errorf("%s: within %v, not %v", name, within, now)
			}
		}
		if !slices.Equal(seen, want) {
			t.Errorf("%s: %v", name, seen)
		}
	}
}

// P13.4: two that range at one time do not meet, whichever of them goes on.
func TestTwoRangings(t *testing.T) {
	q, want := filled(t)
	all := q.All()
	next, stop := iter.Pull(all)
	defer stop()
	var first, second []api.Queued
	for x := range all {
		second = append(second, x)
		if y, ok := next(); ok {
			first = append(first, y)
		}
		q.Clear()
	}
	if _, ok := next(); ok || !slices.Equal(first, want) || !slices.Equal(second, want) {
		t.Error(first, second)
	}
}

// A body that panics out of the ranging leaves the queue as it is.
func TestAllPanickedOutOf(t *testing.T) {
	q, want := filled(t)
	func() {
		defer func() { recover() }()
		for range q.All() {
			panic("out")
		}
	}()
	if l := slices.Collect(q.All()); !slices.Equal(l, want) {
		t.Error(l)
	}
}
