package tick_test

import (
	"fmt"
	"maps"
	"slices"
	"testing"

	"tappet/api"
	"tappet/tick"
)

// date is at which tick of its counter, counted from the beginning on, an alarm is due, and its cycle.
type date struct {
	at    uint64
	cycle uint32
}

// book reads the chapter a second time: it counts the ticks of each counter, and notes of each alarm that is set its date, and the requests in the order in which they came. It goes from tick to tick, and so is for small counters.
type book struct {
	x        api.Tables
	ticks    []uint64
	dates    map[int]date
	requests []int
}

func newBook(x api.Tables) *book {
	return &book{x: copied(x), ticks: make([]uint64, len(x.Counters)), dates: map[int]date{}}
}

func (b *book) copy() *book {
	return &book{copied(b.x), slices.Clone(b.ticks), maps.Clone(b.dates), slices.Clone(b.requests)}
}

func (b *book) valueAt(counter int, tick uint64) uint32 {
	return uint32(tick % (uint64(b.x.Counters[counter].Max) + 1))
}

func (b *book) isAlarm(n int) bool { return n >= 0 && n < len(b.x.Alarms) }

func (b *book) isSet(n int) bool {
	_, there := b.dates[n]
	return there
}

func (b *book) counterOf(n int) api.CounterRow { return b.x.Counters[b.x.Alarms[n].Counter] }

func (b *book) note(n int, ticks uint64, cycle uint32) {
	b.dates[n] = date{b.ticks[b.x.Alarms[n].Counter] + ticks, cycle}
}

func (b *book) tick(counter int) ([]int, api.Errno) {
	if counter < 0 || counter >= len(b.ticks) {
		return nil, api.ErrArg
	}
	b.ticks[counter]++
	var told []int
	for n, row := range b.x.Alarms {
		d, there := b.dates[n]
		if !there || row.Counter != counter || d.at != b.ticks[counter] {
			continue
		}
		told = append(told, n)
		if delete(b.dates, n); d.cycle > 0 {
			b.note(n, uint64(d.cycle), d.cycle)
		}
	}
	return told, api.OK
}

func (b *book) base(n int) ([3]uint32, api.Status) {
	if !b.isAlarm(n) {
		return [3]uint32{}, api.EID
	}
	c := b.counterOf(n)
	return [3]uint32{c.Max, c.Base, c.Min}, api.EOK
}

func (b *book) left(n int) (uint32, api.Status) {
	if !b.isAlarm(n) {
		return 0, api.EID
	}
	if !b.isSet(n) {
		return 0, api.ENoFunc
	}
	return uint32(b.dates[n].at - b.ticks[b.x.Alarms[n].Counter]), api.EOK
}

// may tells whether an alarm may be set with a figure of at least so much, and a cycle.
func (b *book) may(n int, least, figure, cycle uint32) api.Status {
	if !b.isAlarm(n) {
		return api.EID
	}
	c := b.counterOf(n)
	switch {
	case b.isSet(n):
		return api.EState
	case figure < least || figure > c.Max:
		return api.EValue
	case cycle != 0 && (cycle < c.Min || cycle > c.Max):
		return api.EValue
	}
	return api.EOK
}

func (b *book) rel(n int, ticks, cycle uint32) api.Status {
	s := b.may(n, 1, ticks, cycle)
	if s == api.EOK {
		b.note(n, uint64(ticks), cycle)
	}
	return s
}

func (b *book) abs(n int, value, cycle uint32) api.Status {
	s := b.may(n, 0, value, cycle)
	if s == api.EOK {
		k, c := uint64(1), b.x.Alarms[n].Counter
		for b.valueAt(c, b.ticks[c]+k) != value {
			k++
		}
		b.note(n, k, cycle)
	}
	return s
}

func (b *book) cancel(n int) api.Status {
	_, s := b.left(n)
	delete(b.dates, n)
	return s
}

func (b *book) auto(mode int) (int, api.Errno) {
	if mode < 0 || mode >= b.x.Modes {
		return 0, api.ErrArg
	}
	count := 0
	for n, row := range b.x.Alarms {
		if row.Auto&(1<<mode) != 0 && !b.isSet(n) {
			b.note(n, uint64(row.Time), row.Cycle)
			count++
		}
	}
	return count, api.OK
}

func (b *book) request(n int) api.Status {
	if n < 0 || n >= len(b.x.Isrs) {
		return api.EID
	}
	if !slices.Contains(b.requests, n) {
		b.requests = append(b.requests, n)
	}
	return api.EOK
}

func (b *book) next(level int, g api.Gate) (int, bool) {
	byPriority := slices.Clone(b.requests)
	slices.SortFunc(byPriority, func(m, n int) int { return b.x.Isrs[n].Priority - b.x.Isrs[m].Priority })
	for _, n := range byPriority {
		shut := g.Shut || g.All != 0 || b.x.Isrs[n].Category == 2 && g.Os != 0
		if b.x.Isrs[n].Priority > level && !shut {
			return n, true
		}
	}
	return -1, false
}

func (b *book) serve(n int) api.Errno {
	at := slices.Index(b.requests, n)
	if at < 0 {
		return api.ErrArg
	}
	b.requests = slices.Delete(b.requests, at, at+1)
	return api.OK
}

func (b *book) calm() { b.dates, b.requests = map[int]date{}, nil }

func (b *book) counters() []uint32 {
	var l []uint32
	for n, k := range b.ticks {
		l = append(l, b.valueAt(n, k))
	}
	return l
}

func (b *book) alarms() []api.AlarmLook {
	l := make([]api.AlarmLook, len(b.x.Alarms))
	for n, d := range b.dates {
		v, _ := b.left(n)
		l[n] = api.AlarmLook{Set: true, Left: v, Cycle: d.cycle}
	}
	return l
}

func (b *book) requested() []int { return slices.Sorted(slices.Values(b.requests)) }

// key tells states apart.
func (b *book) key() string { return fmt.Sprint(b.counters(), b.alarms(), b.requested()) }

// stands: of all counters, alarms and ISRs, and of those beside them, the board tells what the book does.
func stands(t *testing.T, b *tick.Board, k *book) {
	t.Helper()
	countersAre(t, b, k.counters()...)
	if l, want := b.Alarms(), k.alarms(); !slices.Equal(l, want) {
		t.Fatalf("Alarms: %v, not %v", l, want)
	}
	for n := -1; n <= len(k.x.Alarms); n++ {
		v, s := k.left(n)
		left(t, b, n, v, s)
		x, s := k.base(n)
		if y, r := b.Base(n); y != x || r != s {
			t.Fatalf("Base(%d): %v %d, not %v %d", n, y, r, x, s)
		}
	}
	requestedAre(t, b, k.requested()...)
	for _, level := range []int{-1, 63, 64, 69, 70, 79, 80, 89, 90, 126, 127} {
		for _, g := range []api.Gate{open, {Os: 1}, {All: 1}, {Shut: true}} {
			n, _ := k.next(level, g)
			next(t, b, level, g, n)
		}
	}
}
