package clock_test

import (
	"math"
	"math/big"
	"testing"

	"tappet/clock"
)

const top = uint32(math.MaxUint32)

// P16.1: every small counter, from every value on, those above the greatest among them.
func TestSmallSums(t *testing.T) {
	for greatest := range uint32(7) {
		for now := range greatest + 4 {
			at := min(now, greatest)
			next := at + 1
			if at == greatest {
				next = 0
			}
			if v := clock.Next(greatest, now); v != next {
				t.Fatalf("Next(%d, %d): %d, not %d", greatest, now, v, next)
			}
			seen := map[uint32]uint64{} // of each value the least number of ticks, 1 or more, behind which it is there
			for n := range uint64(4 * (greatest + 1)) {
				if v := clock.After(greatest, now, n); v != at {
					t.Fatalf("After(%d, %d, %d): %d, not %d", greatest, now, n, v, at)
				}
				if n > 0 && seen[at] == 0 {
					seen[at] = n
				}
				at = clock.Next(greatest, at)
			}
			for value := range greatest + 4 {
				if n, want := clock.Until(greatest, now, value), seen[min(value, greatest)]; n != want {
					t.Fatalf("Until(%d, %d, %d): %d, not %d", greatest, now, value, n, want)
				}
			}
		}
	}
}

// P16.1: a counter of one value alone.
func TestSumsOfZero(t *testing.T) {
	for _, now := range []uint32{0, 1, top} {
		if v := clock.Next(0, now); v != 0 {
			t.Error("Next:", v)
		}
		if v := clock.After(0, now, math.MaxUint64); v != 0 {
			t.Error("After:", v)
		}
		if n := clock.Until(0, now, now); n != 1 {
			t.Error("Until:", n)
		}
	}
}

// P16.1: the greatest counters: the round of one is 2^32.
func TestGreatSums(t *testing.T) {
	for _, x := range []struct {
		greatest, now uint32
		ticks         uint64
		want          uint32
	}{
		{top, top, 1, 0}, {top, 0, 1, 1}, {top, top - 1, 1, top},
		{top, 5, 1 << 32, 5}, {top, 5, 1<<32 - 1, 4}, {top, 5, math.MaxUint64, 4},
		{top, top, math.MaxUint64, top - 1}, {top, 0, math.MaxUint64, top}, {top, 0, 0, 0}, {top, top, 0, top},
		{top - 1, top, 0, top - 1}, {top - 1, top, 1, 0}, {top - 1, top - 1, math.MaxUint64, top - 1},
		{1<<31 - 1, 1 << 31, 0, 1<<31 - 1}, {1<<31 - 1, 7, math.MaxUint64, 6}, {1<<31 - 1, top, 1 << 31, 1<<31 - 1},
	} {
		if v := clock.After(x.greatest, x.now, x.ticks); v != x.want {
			t.Errorf("After(%d, %d, %d): %d, not %d", x.greatest, x.now, x.ticks, v, x.want)
		}
		if v := clock.Next(x.greatest, x.now); x.ticks == 1 && v != x.want {
			t.Errorf("Next(%d, %d): %d, not %d", x.greatest, x.now, v, x.want)
		}
	}
	for _, x := range []struct {
		greatest, now, value uint32
		want                 uint64
	}{
		{top, 5, 5, 1 << 32}, {top, 0, 0, 1 << 32}, {top, top, top, 1 << 32}, {top, top, 0, 1}, {top, 0, top, 1<<32 - 1},
		{top, 1, 0, 1<<32 - 1}, {top, top - 1, top, 1}, {top - 1, top, top, 1<<32 - 1}, {top - 1, top, 0, 1},
		{1<<31 - 1, top, 1 << 31, 1 << 31}, {1<<31 - 1, 0, top, 1<<31 - 1}, {1<<31 - 1, 3, 2, 1<<31 - 1},
	} {
		if n := clock.Until(x.greatest, x.now, x.value); n != x.want {
			t.Errorf("Until(%d, %d, %d): %d, not %d", x.greatest, x.now, x.value, n, x.want)
		}
	}
}

// figure is one by chance: small, great, or any.
func (c *chance) figure() uint32 {
	switch c.below(4) {
	case 0:
		return uint32(c.below(20))
	case 1:
		return top - uint32(c.below(20))
	case 2:
		return 1<<31 - 10 + uint32(c.below(20))
	}
	return uint32(c.wide())
}

// P16.1: After against numbers that do not wrap, Until against After.
func TestSumsOfAllSizes(t *testing.T) {
	c := chance(3)
	for range 200000 {
		greatest, now, value, n := c.figure(), c.figure(), c.figure(), c.wide()
		if c.below(3) == 0 {
			n = math.MaxUint64 - uint64(c.below(100))
		}
		sum := new(big.Int).SetUint64(n)
		sum.Add(sum, big.NewInt(int64(min(now, greatest))))
		sum.Mod(sum, big.NewInt(int64(greatest)+1))
		if v := clock.After(greatest, now, n); uint64(v) != sum.Uint64() {
			t.Fatalf("After(%d, %d, %d): %d, not %d", greatest, now, n, v, sum)
		}
		if v, want := clock.Next(greatest, now), clock.After(greatest, now, 1); v != want {
			t.Fatalf("Next(%d, %d): %d, not %d", greatest, now, v, want)
		}
		// Of the numbers 1 to greatest + 1 just one leads to the value.
		u := clock.Until(greatest, now, value)
		if u < 1 || u > uint64(greatest)+1 || clock.After(greatest, now, u) != min(value, greatest) {
			t.Fatalf("Until(%d, %d, %d): %d", greatest, now, value, u)
		}
	}
}
