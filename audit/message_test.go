package audit_test

import (
	"math"
	"testing"

	"tappet/api"
)

// P26.1, SendMessage: what is received of it, rising; queued ones as long as there is room; other windows are none's.
func TestSend(t *testing.T) {
	c := small()
	waits(t, "0", c, of(up(isr(1)), ok(send(0), isr(1))), window(2, 1, -1), window(3, 1, -1))
	waits(t, "4", c, of(up(isr(1)), ok(send(4), isr(1))), window(1, 1, -1))
	for _, n := range []uint32{1, 2, 3, 5, 6, 7, 64, 1 << 31, math.MaxUint32} {
		waits(t, "none that is sent", c, of(up(isr(1)), ok(send(n), isr(1))))
	}
	for s := api.EOK + 1; s < 40; s++ {
		waits(t, "refused", c, of(up(isr(1)), said(s, send(0), isr(1))))
	}
	waits(t, "idle", c, of(up(isr(1)), idle(send(0), isr(1))))
	waits(t, "other services", c, of(up(isr(1)), ok(call(api.SvGetMessageStatus, 0), isr(1)), ok(call(api.SvReadFlag, 0), isr(1)), ok(call(api.SvResetFlag, 0), isr(1)), ok(receive(0), isr(1)), ok(call(api.SvInitMessage, 0), isr(1))))
	for _, who := range append(routines(), task(2), isr(0)) {
		waits(t, "by any", c, of(up(who), ok(send(4), isr(1))), window(1, 1, -1))
	}
	// The task 3 once, the task 2 as often as there is room in the queue.
	finds(t, "no room", c, of(up(isr(1)), ok(send(0), isr(1)), ok(send(0), isr(1)), ok(send(0), isr(1)), said(api.ELimit, activate(3), isr(1)), ok(activate(2), isr(1)), said(api.ELimit, activate(2), isr(1))))
	finds(t, "the limit stops them", c, of(up(isr(1)), ok(activate(1), isr(1)), ok(send(4), isr(1)), said(api.ELimit, activate(1), isr(1)), ok(activate(1), isr(1))), "limit 4 1")
}

// kept are how many values the message 1 has behind these steps: the rest of its two places starts the task 2, as long as that has room.
func kept(t *testing.T, l ...api.Traced) int {
	t.Helper()
	c := small()
	c.Tasks[2].Activation = 255
	c.Messages[3].Action = starts(2)
	c.Messages[3].Queue = 16
	r := of(append(append([]api.Traced{}, l...), ok(send(0), isr(1)), ok(send(0), isr(1)), ok(send(0), isr(1)))...)
	n := 2
	at := -1
	checked(t, c, r)
	_, windows := readingOf(c, r)
	for _, w := range windows {
		if w.Task == 2 && w.From >= len(l) {
			if w.From == at {
				n--
			}
			at = w.From
		}
	}
	return n
}

// P26.1: how many values are in a queue: sent, received, also with E_COM_LIMIT, not below none; emptied by InitMessage and by SStart, alone.
func TestQueues(t *testing.T) {
	sent := ok(send(0), isr(1))
	twice := []api.Traced{up(isr(1)), sent, sent}
	with := func(l ...api.Traced) []api.Traced { return append(append([]api.Traced{}, twice...), l...) }
	for what, x := range map[string]struct {
		l    []api.Traced
		want int
	}{
		"none":                  {nil, 0},
		"one":                   {twice[:2], 1},
		"two":                   {twice, 2},
		"three":                 {with(sent), 2},
		"received":              {with(ok(receive(1), isr(1))), 1},
		"received, and lost":    {with(said(api.EComLimit, receive(1), isr(1))), 1},
		"received twice":        {with(ok(receive(1), isr(1)), said(api.EComLimit, receive(1), isr(1))), 0},
		"not below none":        {with(ok(receive(1), isr(1)), ok(receive(1), isr(1)), ok(receive(1), isr(1)), sent), 1},
		"received otherwise":    {with(said(api.EComNoMsg, receive(1), isr(1)), said(api.EComID, receive(1), isr(1)), idle(receive(1), isr(1))), 2},
		"another is":            {with(ok(receive(3), isr(1)), ok(receive(0), isr(1)), ok(receive(2), isr(1)), ok(receive(7), isr(1)), ok(receive(math.MaxUint32), isr(1))), 2},
		"E_COM_LIMIT of others": {with(said(api.EComLimit, send(0), isr(1)), said(api.EComLimit, call(api.SvInitMessage, 1), isr(1)), said(api.EComLimit, call(api.SvGetMessageStatus, 1), isr(1))), 2},
		"emptied":               {with(ok(call(api.SvInitMessage, 1), isr(1))), 0},
		"emptied, refused":      {with(said(api.EComLength, call(api.SvInitMessage, 1), isr(1)), idle(call(api.SvInitMessage, 1), isr(1))), 2},
		"another emptied":       {with(ok(call(api.SvInitMessage, 3), isr(1)), ok(call(api.SvInitMessage, 0), isr(1)), ok(call(api.SvInitMessage, 7), isr(1)), ok(call(api.SvInitMessage, math.MaxUint32), isr(1))), 2},
		"started":               {with(ok(start(1), isr(1))), 0},
		"started in no mode":    {with(ok(start(9), isr(1))), 0},
		"started, refused":      {with(said(api.EID, start(0), isr(1)), idle(start(0), isr(1))), 2},
		"shut down":             {with(ok(call(api.SvShutdownOS), isr(1))), 2},
		"told":                  {with(ok(call(api.SvGetMessageStatus, 1), isr(1)), ok(ret(), isr(1)), ticked(0, isr(1))), 2},
	} {
		if n := kept(t, x.l...); n != x.want {
			t.Errorf("%s: %d values, not %d", what, n, x.want)
		}
	}
}

// P26.1: an unqueued message has no queue, however often it is sent; a queued one without an action, or with another one, starts nobody.
func TestKinds(t *testing.T) {
	c := small()
	c.Tasks[3].Activation = 255
	r := of(up(isr(1)))
	for range 30 {
		r.Entries = append(r.Entries, ok(send(0), isr(1)))
	}
	checked(t, c, r)
	_, windows := readingOf(c, r)
	starts := map[int]int{}
	for _, w := range windows {
		starts[w.Task]++
	}
	if starts[2] != 2 || starts[3] != 30 || len(starts) != 2 {
		t.Error("starts:", starts)
	}
	c.Messages[1].Action = api.Action{}
	waits(t, "without an action", c, of(up(isr(1)), ok(send(0), isr(1))), window(3, 1, -1))
	c.Messages[2].Action = api.Action{Kind: api.ActFlag, Name: "f"}
	waits(t, "a flag", c, of(up(isr(1)), ok(send(0), isr(1))))
}
