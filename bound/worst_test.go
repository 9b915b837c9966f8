package bound_test

import (
	"slices"
	"strconv"
	"testing"

	"tappet/api"
	"tappet/bound"
)

// alone is a configuration of a task of each of these priorities, all full, without anything else; with so many ISRs.
func alone(isrs int, priorities ...int) api.Config {
	c := api.Config{CPU: "c", OS: api.Os{Name: "o"}, Modes: []string{"m"}}
	for n, p := range priorities {
		c.Tasks = append(c.Tasks, api.Task{Name: name(n), Priority: p, Full: true, Activation: 1})
	}
	for n := range isrs {
		c.Isrs = append(c.Isrs, api.Isr{Name: name(n), Category: 2 - n%2, Priority: 64 + n + n%2*32})
	}
	return c
}

func name(n int) string { return "n" + strconv.Itoa(n) }

// times are figures without sections: works and periods of tasks and of ISRs.
func times(work, period, isrWork, isrEvery []uint64) api.Figures {
	return api.Figures{Work: work, Period: period, IsrWork: isrWork, IsrEvery: isrEvery}
}

// P27.3: the small configuration, by hand.
func TestWorst(t *testing.T) {
	c, f := small()
	worsts(t, "small", c, f,
		57, // 20 + 11 + 12 + 3 + 7 = 53, and 2 twice: the ISR comes a second time behind 50
		40, // 11 + 5 + 12 + 3 + 7 + 2
		40, // 12 + 5 + 11 + 3 + 7 + 2
		5,  // 3 + 2
		23, // 7 + 11 + 3 + 2
	)
	f.Period = []uint64{1, 39, 40, 41, 42}
	worsts(t, "shorter periods", c, f,
		193, // by 55, 90, 123, 148, 158, 171: 20 + 5 * 11 + 5 * 12 + 5 * 3 + 5 * 7 + 4 * 2
		40,  // as above: 2 comes a second time just behind 40
		63,  // 1 comes a second time behind 39, and then all the others: 12 + 5 + 2 * 11 + 2 * 3 + 2 * 7 + 2 * 2
		5,
		23,
	)
}

// P27.3: a task that nobody disturbs takes its own work, whatever its period.
func TestWorstAlone(t *testing.T) {
	for _, work := range []uint64{1, 2, 999999, 1000000} {
		for _, period := range []uint64{1, work, api.MaxTick} {
			worsts(t, "alone", alone(0, 5), times([]uint64{work}, []uint64{period}, nil, nil), work)
			worsts(t, "with one below", alone(0, 5, 4), times([]uint64{work, 100}, []uint64{period, 1}, nil, nil), work)
			worsts(t, "with ISRs that do nothing", alone(2, 5), times([]uint64{work}, []uint64{period}, []uint64{0, 0}, []uint64{1, 7}), work)
		}
	}
	worsts(t, "above the greatest limit", alone(0, 5), times([]uint64{1000001}, []uint64{1}, nil, nil), 0)
	worsts(t, "the most", alone(0, 5), times([]uint64{api.MaxTick}, []uint64{1}, nil, nil), 0)
}

// P27.3: one above comes again just behind its period, not at it.
func TestWorstAtPeriods(t *testing.T) {
	for _, priority := range []int{5, 6, 63} {
		for _, x := range []struct{ work, above, period, worst uint64 }{
			{7, 3, 10, 10}, {7, 3, 9, 13}, {7, 3, 11, 10}, {8, 3, 10, 14}, {1, 1, 2, 2}, {1, 1, 1, 0}, {2, 1, 2, 4}, {3, 1, 2, 6}, {1, 2, 3, 3}, {2, 2, 3, 6}, {5, 999995, 1000000, 1000000},
			{6, 999995, 1000000, 0}, {5, 999995, 999999, 0}, {1, 1, api.MaxTick, 2}, {1, 999999, 1000000, 1000000}, {500000, 1, 2, 1000000}, {500001, 1, 2, 0}, {1, 2, 1, 0}, {1, api.MaxTick, api.MaxTick, 0},
		} {
			worsts(t, "a task above, or beside", alone(0, 5, priority), times([]uint64{x.work, x.above}, []uint64{1, x.period}, nil, nil), x.worst)
			worsts(t, "an ISR", alone(1, 5), times([]uint64{x.work}, []uint64{1}, []uint64{x.above}, []uint64{x.period}), x.worst)
			worsts(t, "an ISR of category 1", alone(2, 5), times([]uint64{x.work}, []uint64{1}, []uint64{0, x.above}, []uint64{1, x.period}), x.worst)
		}
	}
}

// P27.3: those of one priority count for each other, each but itself.
func TestWorstBeside(t *testing.T) {
	worsts(t, "three", alone(0, 2, 2, 2), times([]uint64{3, 4, 5}, []uint64{12, 12, 12}, nil, nil), 12, 12, 12)
	worsts(t, "one comes sooner", alone(0, 2, 2, 2), times([]uint64{3, 4, 5}, []uint64{11, 12, 12}, nil, nil), 12, 20, 19)
	worsts(t, "and one below, one above", alone(0, 2, 1, 3, 2), times([]uint64{3, 4, 5, 6}, []uint64{90, 91, 92, 93}, nil, nil), 14, 18, 5, 14)
}

// P27.3: blocking counts once, and is told also where no limit is met.
func TestWorstBlocked(t *testing.T) {
	c := alone(0, 5, 4)
	c.Tasks[1].Full = false
	for _, x := range []struct{ work, below, worst uint64 }{
		{1, 1, 2}, {1, 999999, 1000000}, {1, 1000000, 0}, {1000000, 1, 0}, {999999, 1, 1000000}, {api.MaxTick, api.MaxTick, 0}, {1, api.MaxTick, 0},
	} {
		f := times([]uint64{x.work, x.below}, []uint64{1, 1}, nil, nil)
		blocks(t, "blocked", c, f, x.below, 0)
		worsts(t, "blocked", c, f, x.worst)
	}
}

// P27.3: sums as great as they may be do not wrap to what would be met.
func TestSumsDoNotWrap(t *testing.T) {
	priorities := slices.Repeat([]int{9}, api.MaxTasks)
	c := alone(api.MaxIsrs, priorities...)
	c.Tasks[0].Full = false
	c.Tasks[0].Priority = 8
	all := func(n uint64, many int) []uint64 { return slices.Repeat([]uint64{n}, many) }
	for _, work := range []uint64{api.MaxTick, 1 << 30, 1 << 29, 1 << 26, 1 << 24, 1000001} {
		for _, period := range []uint64{1, 2, api.MaxTick} {
			f := times(all(work, 256), all(period, 256), all(work, 32), all(period, 32))
			for _, task := range []int{0, 1, 255} {
				for _, limit := range []uint64{0, 1, 999999, 1000000} {
					want := api.Reply{Blocked: work}
					if task == 0 {
						want.Blocked = 0
					}
					if r, e := bound.Reckon(c, f, task, limit); e != api.OK || r != want {
						t.Errorf("work %d, period %d, task %d, limit %d: %+v, %d", work, period, task, limit, r, e)
					}
				}
			}
		}
	}
	// Little work of its own, and rivals whose sum, or one of them alone, is a power of two, or nothing in so few bits.
	for _, work := range []uint64{1, 2, 4, 1 << 10, 1 << 18} {
		for bits := 20; bits < 31; bits++ {
			f := times(all(work, 256), all(1, 256), all(0, 32), all(1, 32))
			low := alone(api.MaxIsrs, 7)
			f.Work, f.Period, f.IsrWork[31] = f.Work[:1], f.Period[:1], 1<<bits
			worsts(t, "one that comes at all times", low, f, 0)
			f = times(f.Work, f.Period, all(1<<bits, 32), all(api.MaxTick, 32))
			worsts(t, "32 that come once", low, f, 0)
			f = times(all(1<<bits, 256), all(api.MaxTick, 256), all(0, 32), all(1, 32))
			f.Work[0] = work
			worsts(t, "255 that come once", c, f, 0)
			f.IsrWork[0] = 1 << bits
			worsts(t, "256 that come once or at all times", c, f, 0)
		}
	}
	// As many as may be, each of which comes once; the lowest waits for all, and is its own.
	f := times(all(2, 256), all(1000, 256), all(1, 32), all(1000, 32))
	worsts(t, "all of them", c, f, 2*256+32, 2*256+32, 2*256+32)
}

// P27.4: each task with its own limit, at, above and below its worst time, in the order of the ids.
func TestAll(t *testing.T) {
	c, f := small()
	worst := []uint64{57, 40, 40, 5, 23}
	for turn := range 243 {
		limits := make([]uint64, 5)
		var want []api.Reply
		for task, n := 0, turn; task < 5; task, n = task+1, n/3 {
			limits[task] = worst[task] + uint64(n%3) - 1
			reply := api.Reply{Blocked: blockedOf(c, f, task)}
			if n%3 > 0 {
				reply.Worst, reply.Meets = worst[task], true
			}
			want = append(want, reply)
		}
		if l, e := bound.All(c, f, limits); e != api.OK || !slices.Equal(l, want) {
			t.Errorf("All of %v: %+v, %d, not %+v", limits, l, e, want)
		}
	}
}

// P27.3: all limits of some figures, against the second reading.
func TestAllLimits(t *testing.T) {
	c, f := small()
	f.Period = []uint64{100, 39, 45, 41, 42}
	f.IsrEvery[0] = 13
	for task := range c.Tasks {
		for limit := range uint64(300) {
			if r, e := bound.Reckon(c, f, task, limit); e != api.OK || r != replyOf(c, f, task, limit) {
				t.Errorf("Reckon(%d, %d): %+v, %d, not %+v", task, limit, r, e, replyOf(c, f, task, limit))
			}
		}
	}
}

// P27.2, P27.3: all works, periods and priorities of two tasks and an ISR that are small.
func TestAllSmall(t *testing.T) {
	least := api.Figures{Work: []uint64{1, 1}, Period: []uint64{1, 1}, IsrWork: []uint64{0}, IsrEvery: []uint64{1}}
	for priorities := range 8 {
		c := alone(1, priorities&1, priorities>>1&1)
		c.Tasks[0].Full = priorities < 4
		f := plain(least)
		all := []*uint64{&f.Work[0], &f.Work[1], &f.Period[0], &f.Period[1], &f.IsrWork[0], &f.IsrEvery[0]}
		for n := range 4 * 4 * 5 * 5 * 3 * 5 {
			for i, many := range []int{4, 4, 5, 5, 3, 5} {
				*all[i] = uint64(n % many)
				if i != 4 {
					*all[i]++
				}
				n /= many
			}
			for task := range 2 {
				if r, e := bound.Reckon(c, f, task, 40); e != api.OK || r != replyOf(c, f, task, 40) {
					t.Fatalf("Reckon(%d, 40): %+v, %d, not %+v: %s of %s", task, r, e, replyOf(c, f, task, 40), short(f), short(c))
				}
			}
		}
	}
}
