package com

import (
	"slices"

	"tappet/api"
)

// plan is what a node does not change; copies share it.
type plan struct {
	rows       []api.MessageRow
	alarms     int   // callbacks of messages have numbers behind theirs
	categories []int // of the ISRs
}

func newPlan(t api.Tables) *plan {
	p := &plan{rows: slices.Clone(t.Messages), alarms: len(t.Alarms)}
	for _, row := range t.Isrs {
		p.categories = append(p.categories, row.Category)
	}
	return p
}

// sent is the row of a sent message; false: it is none.
func (p *plan) sent(message uint32) (api.MessageRow, bool) {
	if uint64(message) >= uint64(len(p.rows)) || p.rows[message].Kind != api.MsgSend {
		return api.MessageRow{}, false
	}
	return p.rows[message], true
}

// length is that of the sent message of which one is received.
func (p *plan) length(received uint32) int { return p.rows[p.rows[received].From].Length }
