package clock_test

import (
	"math"
	"slices"
	"testing"

	"tappet/api"
)

// P16.7: so many as are asked for, no more than there are; a tick's expirings are cut where enough are told.
func TestComingMost(t *testing.T) {
	c := made(t, 9, 1, 4)
	ok(t, c.Rel(3, 2, 2))
	ok(t, c.Rel(0, 4, 0))
	ok(t, c.Rel(1, 2, 0))
	all := []api.Expiry{{In: 2, Alarm: 1}, {In: 2, Alarm: 3}, {In: 4, Alarm: 0}, {In: 4, Alarm: 3}, {In: 6, Alarm: 3}, {In: 8, Alarm: 3}, {In: 10, Alarm: 3}, {In: 12, Alarm: 3}}
	for most := range len(all) + 1 {
		coming(t, c, most, all[:most]...)
	}
	for _, most := range []int{0, -1, -65536, math.MinInt} {
		coming(t, c, most)
	}
	ok(t, c.Cancel(3))
	for _, most := range []int{2, 3, 65536, math.MaxInt} {
		coming(t, c, most, all[0], all[2])
	}
	ok(t, c.Cancel(0))
	ok(t, c.Cancel(1))
	coming(t, c, math.MaxInt)
}

// P16.7: at most 65536 are told.
func TestComingIsCut(t *testing.T) {
	c := made(t, 9, 1, 3)
	for alarm := range 3 {
		ok(t, c.Rel(alarm, 1, 1))
	}
	for _, x := range []struct{ most, want int }{{65535, 65535}, {65536, 65536}, {65537, 65536}, {1 << 20, 65536}, {1 << 32, 65536}, {math.MaxInt, 65536}} {
		l := c.Coming(x.most)
		if len(l) != x.want {
			t.Fatalf("Coming(%d): %d", x.most, len(l))
		}
		for i, v := range l {
			if v != (api.Expiry{In: uint64(i/3) + 1, Alarm: i % 3}) {
				t.Fatalf("Coming(%d) at %d: %v", x.most, i, v)
			}
		}
	}
}

// P16.7: expirings that lie as far from one another as may be take no longer: the last is 2^47 ticks away.
func TestComingFarAway(t *testing.T) {
	c := made(t, api.MaxTick, 1, 1)
	ok(t, c.Set(0, api.MaxTick+1, api.MaxTick))
	l := c.Coming(math.MaxInt)
	if len(l) != 65536 {
		t.Fatal(len(l))
	}
	for i, v := range l {
		if v != (api.Expiry{In: 1<<31 + uint64(i)*api.MaxTick, Alarm: 0}) {
			t.Fatalf("at %d: %v", i, v)
		}
	}
}

// P16.7: as many alarms as may be, each with a cycle of its own, from far away; all expirings up to the last that is told are there, in order.
func TestComingOfMany(t *testing.T) {
	c := made(t, api.MaxTick, 1, api.MaxAlarms)
	cycle := func(alarm int) uint32 { return uint32(1<<30 + (alarm*37)%64) }
	var want []api.Expiry
	for alarm := range api.MaxAlarms {
		ok(t, c.Rel(alarm, uint32(1<<29+alarm%5), cycle(alarm)))
		for n := range uint64(1100) {
			want = append(want, api.Expiry{In: 1<<29 + uint64(alarm%5) + n*uint64(cycle(alarm)), Alarm: alarm})
		}
	}
	slices.SortFunc(want, func(a, b api.Expiry) int {
		if a.In != b.In {
			return map[bool]int{true: -1, false: 1}[a.In < b.In]
		}
		return a.Alarm - b.Alarm
	})
	if l := c.Coming(1 << 30); !slices.Equal(l, want[:65536]) {
		t.Error("another order:", len(l))
	}
}

// P16.7: what is told is what ticks tell then, from every place of a round on; and telling changes nothing.
func TestComingComes(t *testing.T) {
	for start := range 12 {
		c := made(t, 10, 1, 4)
		ticks(t, c, start)
		ok(t, c.Abs(0, 3, 4))
		ok(t, c.Rel(1, 6, 0))
		ok(t, c.Rel(2, 10, 10))
		ok(t, c.Set(3, 11, 1))
		told := c.Coming(60)
		var came []api.Expiry
		for n := uint64(1); len(came) < 60; n++ {
			for _, alarm := range c.Tick() {
				came = append(came, api.Expiry{In: n, Alarm: alarm})
			}
		}
		if !slices.Equal(told, came[:60]) {
			t.Fatalf("from %d on: told %v, came %v", start, told, came)
		}
	}
}
