package com

import (
	"slices"

	"tappet/api"
	"tappet/ring"
)

// box is what a received message has: its value, or its queue.
type box interface {
	// begin makes it as at first, with this value, if it has one.
	begin(first uint64)
	// put lets a value come; false: there was no room for it.
	put(value uint64) bool
	// take receives a value (P24.4).
	take() (uint64, api.Status)
	// status is what GetMessageStatus tells (P24.5).
	status() api.Status
	look() api.MessageLook
	copy() box
}

// unqueued keeps what came last.
type unqueued struct{ value uint64 }

func (u *unqueued) begin(first uint64) { u.value = first }

func (u *unqueued) put(value uint64) bool {
	u.value = value
	return true
}

func (u *unqueued) take() (uint64, api.Status) { return u.value, api.EOK }

func (u *unqueued) status() api.Status { return api.EOK }

func (u *unqueued) look() api.MessageLook { return api.MessageLook{Value: u.value} }

func (u *unqueued) copy() box { return &unqueued{value: u.value} }

// queued keeps all that came and found room.
type queued struct {
	queue *ring.Ring[uint64]
	lost  bool
}

func newQueued(room int) *queued {
	q, _ := ring.New[uint64](room) // the tables' queues are far below what a ring may have
	return &queued{queue: q}
}

func (q *queued) begin(uint64) {
	q.queue.Clear()
	q.lost = false
}

func (q *queued) put(value uint64) bool {
	if q.queue.Last(value) != api.OK {
		q.lost = true
		return false
	}
	return true
}

// take ends that it was lost, whatever it answers.
func (q *queued) take() (uint64, api.Status) {
	s := q.status()
	value, _ := q.queue.Take()
	q.lost = false
	return value, s
}

func (q *queued) status() api.Status {
	switch {
	case q.queue.Len() == 0:
		return api.EComNoMsg
	case q.lost:
		return api.EComLimit
	}
	return api.EOK
}

func (q *queued) look() api.MessageLook {
	return api.MessageLook{Queue: slices.Collect(q.queue.All()), Lost: q.lost}
}

func (q *queued) copy() box { return &queued{queue: q.queue.Copy(), lost: q.lost} }
