package tick

import (
	"tappet/api"
	"tappet/clock"
)

// counter is a counter of the board: its clock, which numbers the counter's alarms from 0 on, and what they are called on the board.
type counter struct {
	*clock.Clock
	base   [3]uint32 // Max, Base, Min
	alarms []int     // the board's numbers, rising; never written again
}

func newCounter(row api.CounterRow, alarms []int) counter {
	// Counters that layer 9 takes are not refused by layer 16.
	made, _ := clock.New(api.Counter{Max: row.Max, Base: row.Base, Min: row.Min}, len(alarms))
	return counter{Clock: made, base: [3]uint32{row.Max, row.Base, row.Min}, alarms: alarms}
}

// pass is one tick; told are the alarms that expire by the board's numbers, which rise as the clock's do.
func (c counter) pass() []int {
	expired := c.Tick()
	for k, place := range expired {
		expired[k] = c.alarms[place]
	}
	return expired
}

// alike is a counter of its own that stands as this one.
func (c counter) alike() counter {
	c.Clock = c.Copy()
	return c
}
