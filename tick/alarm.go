package tick

import "tappet/api"

// alarmRow is what a board knows of an alarm; how it stands its counter's clock keeps.
type alarmRow struct {
	counter int
	place   int    // its number in the counter's clock
	auto    uint32 // the modes in which it is set at the start, as bits, with time and cycle
	time    uint32
	cycle   uint32
}

// placed gives each alarm a place among those of its counter, and tells of each counter which alarms it has, by places.
func placed(t api.Tables) ([]alarmRow, [][]int) {
	var alarms []alarmRow
	numbers := make([][]int, len(t.Counters))
	for id, row := range t.Alarms {
		place := len(numbers[row.Counter])
		numbers[row.Counter] = append(numbers[row.Counter], id)
		alarms = append(alarms, alarmRow{counter: row.Counter, place: place, auto: row.Auto, time: row.Time, cycle: row.Cycle})
	}
	return alarms, numbers
}

func (a alarmRow) startsIn(mode int) bool { return a.auto>>mode&1 == 1 }

// find finds an alarm's counter, and its place there.
func (b *Board) find(alarm int) (counter, int, api.Status) {
	if b.none() || alarm < 0 || alarm >= len(b.alarms) {
		return counter{}, 0, api.EID
	}
	a := b.alarms[alarm]
	return b.counters[a.counter], a.place, api.EOK
}

// Base answers Max, Base and Min of an alarm's counter (P21.3).
func (b *Board) Base(alarm int) ([3]uint32, api.Status) {
	c, _, s := b.find(alarm)
	return c.base, s
}

// Left answers the ticks that an alarm has left (P21.3).
func (b *Board) Left(alarm int) (uint32, api.Status) {
	c, place, s := b.find(alarm)
	if s != api.EOK {
		return 0, s
	}
	left, s := c.Left(place)
	return uint32(left), s // a round of the greatest counter is 2^31 ticks: it fits
}

// Rel sets an alarm by ticks from now (P21.3).
func (b *Board) Rel(alarm int, ticks uint32, cycle uint32) api.Status {
	c, place, s := b.find(alarm)
	if s != api.EOK {
		return s
	}
	return c.Rel(place, ticks, cycle)
}

// Abs sets an alarm by its counter's value (P21.3).
func (b *Board) Abs(alarm int, value uint32, cycle uint32) api.Status {
	c, place, s := b.find(alarm)
	if s != api.EOK {
		return s
	}
	return c.Abs(place, value, cycle)
}

// Cancel sets an alarm no more (P21.3).
func (b *Board) Cancel(alarm int) api.Status {
	c, place, s := b.find(alarm)
	if s != api.EOK {
		return s
	}
	return c.Cancel(place)
}

// Auto sets the alarms that start in a mode and are not set, and tells how many these are (P21.4).
func (b *Board) Auto(mode int) (int, api.Errno) {
	if b.none() {
		return 0, api.ErrNil
	}
	if mode < 0 || mode >= b.modes {
		return 0, api.ErrArg
	}
	count := 0
	for _, a := range b.alarms {
		if a.startsIn(mode) && b.counters[a.counter].Set(a.place, a.time, a.cycle) == api.EOK {
			count++
		}
	}
	return count, api.OK
}

// Alarms answers how each alarm stands (P21.4).
func (b *Board) Alarms() []api.AlarmLook {
	if b.none() {
		return nil
	}
	looks := make([]api.AlarmLook, len(b.alarms))
	for id, a := range b.alarms {
		looks[id] = b.counters[a.counter].look(a.place)
	}
	return looks
}

// look is how an alarm stands.
func (c counter) look(place int) api.AlarmLook {
	left, s := c.Left(place)
	if s != api.EOK {
		return api.AlarmLook{}
	}
	cycle, _ := c.Cycle(place)
	return api.AlarmLook{Set: true, Left: uint32(left), Cycle: cycle}
}
