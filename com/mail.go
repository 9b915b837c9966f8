package com

import (
	"slices"

	"tappet/api"
)

// mail is what a node changes beside its kernel, by the numbers of the messages.
type mail struct {
	boxes []box  // nil of a sent one
	flags []bool // false of one that has none
}

func newMail(rows []api.MessageRow) mail {
	m := mail{boxes: make([]box, len(rows)), flags: make([]bool, len(rows))}
	for id, row := range rows {
		switch row.Kind {
		case api.MsgUnqueued:
			m.boxes[id] = &unqueued{}
		case api.MsgQueued:
			m.boxes[id] = newQueued(row.Queue)
		}
	}
	m.begin(rows)
	return m
}

// begin makes all as at first.
func (m mail) begin(rows []api.MessageRow) {
	clear(m.flags)
	for id, b := range m.boxes {
		if b != nil {
			b.begin(rows[id].Init)
		}
	}
}

// box is what a received message has; false: it is none.
func (m mail) box(message uint32) (box, bool) {
	if uint64(message) >= uint64(len(m.boxes)) || m.boxes[message] == nil {
		return nil, false
	}
	return m.boxes[message], true
}

func (m mail) look() []api.MessageLook {
	l := make([]api.MessageLook, len(m.boxes))
	for id, b := range m.boxes {
		if b != nil {
			l[id] = b.look()
		}
		l[id].Flag = m.flags[id]
	}
	return l
}

func (m mail) copy() mail {
	boxes := make([]box, len(m.boxes))
	for id, b := range m.boxes {
		if b != nil {
			boxes[id] = b.copy()
		}
	}
	return mail{boxes: boxes, flags: slices.Clone(m.flags)}
}
