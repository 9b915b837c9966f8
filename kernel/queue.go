package kernel

import (
	"slices"

	"tappet/api"
	"tappet/ring"
)

// queue is what waits, first in, first out: a ring of the room that the tables measured, and behind it what found no room there. Only effects that no message of the tables could bring get so far (P22.5).
type queue[T comparable] struct {
	ring *ring.Ring[T]
	rest []T
	high int
}

func newQueue[T comparable](room int) *queue[T] {
	made, _ := ring.New[T](room) // the tables' rooms are far below what a ring may have
	return &queue[T]{ring: made}
}

func (q *queue[T]) join(v T) {
	// Whatever the rest holds comes behind all in the ring, and ahead of this one.
	if len(q.rest) > 0 || q.ring.Last(v) != api.OK {
		q.rest = append(q.rest, v)
	}
	q.high = max(q.high, q.ring.Len()+len(q.rest))
}

// take takes the first one; false: there is none.
func (q *queue[T]) take() (T, bool) {
	v, e := q.ring.Take()
	if e == api.OK {
		return v, true
	}
	if len(q.rest) == 0 {
		return v, false
	}
	v, q.rest = q.rest[0], q.rest[1:]
	return v, true
}

func (q *queue[T]) has(v T) bool {
	for other := range q.ring.All() {
		if other == v {
			return true
		}
	}
	return slices.Contains(q.rest, v)
}

// clear leaves nobody waiting; the mark stays.
func (q *queue[T]) clear() {
	q.ring.Clear()
	q.rest = nil
}

func (q *queue[T]) copy() *queue[T] {
	return &queue[T]{ring: q.ring.Copy(), rest: slices.Clone(q.rest), high: q.high}
}
