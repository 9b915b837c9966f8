package audit_test

import (
	"cmp"
	"slices"

	"tappet/api"
)

// A second reading of the chapter, slow and word by word: what is kept is what was done, and windows are counted when the trace is at its end.

// taking is that somebody took a resource, and holds it still.
type taking struct {
	who      api.Frame
	resource int
}

// wait is a window, with the entry at which it was closed, or the last one.
type wait struct {
	api.Window
	end    int
	closed bool
}

// date is when an alarm expires: by the tick of that number of its counter, the first is 1; 0: it is not set.
type date struct{ at, cycle uint64 }

type reading struct {
	c       api.Config
	l       []api.Traced
	isUp    bool
	active  map[int]int
	inside  map[int]bool
	leaves  []taking // who leaves, and in resource how many activations less it has then
	takings []taking
	ticks   map[int]uint64 // how often each counter ticked
	dates   map[int]date
	values  map[int]int
	waits   []*wait
	found   map[int][]api.Finding // by entry
}

// readingOf are the findings and the windows of a trace.
func readingOf(c api.Config, r api.Trace) ([]api.Finding, []api.Window) {
	x := &reading{c: c, l: r.Entries, active: map[int]int{}, inside: map[int]bool{}, ticks: map[int]uint64{}, dates: map[int]date{}, values: map[int]int{}, found: map[int][]api.Finding{}}
	for i := range x.l {
		x.entry(i)
	}
	var windows []api.Window
	for _, w := range x.waits {
		if !w.closed {
			w.end = len(x.l) - 1
		}
		x.count(w)
		windows = append(windows, w.Window)
	}
	var findings []api.Finding
	for i := range x.l {
		// Those of one entry were found kind by kind, but for the blocked ones, which stand between.
		slices.SortStableFunc(x.found[i], func(a, b api.Finding) int { return cmp.Compare(rank(a), rank(b)) })
		findings = append(findings, x.found[i]...)
	}
	return findings, windows
}

func rank(f api.Finding) int {
	switch f.Kind {
	case api.FindBlocked:
		return 1
	case api.FindIdle:
		return 2
	}
	return 0
}

func (x *reading) find(i int, kind api.FindingKind, id, other int) {
	x.found[i] = append(x.found[i], api.Finding{Kind: kind, Entry: i, ID: id, Other: other})
}

// caller is who calls at an entry.
func (x *reading) caller(i int) api.Frame {
	if i == 0 {
		return api.Frame{}
	}
	return x.l[i-1].Answer.Run
}

// isTask, isIsr: a context is one of the configuration's.
func (x *reading) isTask(f api.Frame) bool {
	return f.Kind == api.FTask && f.ID >= 0 && f.ID < len(x.c.Tasks)
}

func (x *reading) isIsr(f api.Frame) bool {
	return f.Kind == api.FIsr && f.ID >= 0 && f.ID < len(x.c.Isrs)
}

// there: a parameter is a number of one of so many things.
func there(p uint32, many int) bool { return uint64(p) < uint64(many) }

// resources are how many there are, RES_SCHEDULER with them.
func (x *reading) resources() int {
	n := len(x.c.Resources)
	if x.c.OS.Schedule {
		n++
	}
	return n
}

func (x *reading) entry(i int) {
	s, a := x.l[i].Step, x.l[i].Answer
	if !a.Idle {
		switch s.Kind {
		case api.SStart:
			if a.Status == api.EOK {
				x.start(i, s.ID)
			}
		case api.STick:
			if a.Status == api.EOK && s.ID >= 0 && s.ID < len(x.c.Counters) {
				x.tick(i, s.ID, a.Expired)
			}
		case api.SReturn:
			x.ret(i)
		case api.SCall:
			x.tasks(i, s, a.Status)
			if a.Status == api.EOK {
				x.others(i, s)
				x.alarms(s)
			}
			x.messages(i, s, a.Status)
		}
	}
	x.behind(i, a.Run)
}

func (x *reading) ask(i, task int) {
	x.active[task]++
	x.wait(i, task)
}

func (x *reading) wait(i, task int) {
	x.waits = append(x.waits, &wait{Window: api.Window{Task: task, From: i, To: -1, Lower: -1}})
}

func (x *reading) act(i int, a api.Action) {
	if a.Kind == api.ActTask && x.active[a.Task] < x.c.Tasks[a.Task].Activation {
		x.ask(i, a.Task)
	}
}

func (x *reading) start(i, mode int) {
	x.isUp = true
	x.values = map[int]int{}
	for id, t := range x.c.Tasks {
		for _, m := range t.Auto {
			if m == mode {
				x.ask(i, id)
			}
		}
	}
	for id, a := range x.c.Alarms {
		for _, m := range a.Auto {
			if m == mode {
				x.set(id, uint64(a.Time), a.Cycle)
			}
		}
	}
}

func (x *reading) set(alarm int, left uint64, cycle uint32) {
	x.dates[alarm] = date{at: x.ticks[x.c.Alarms[alarm].Counter] + max(left, 1), cycle: uint64(cycle)}
}

func (x *reading) tick(i, counter int, expired []int) {
	x.ticks[counter]++
	now := x.ticks[counter]
	for id, a := range x.c.Alarms {
		if d := x.dates[id]; a.Counter == counter && d.at == now && !slices.Contains(expired, id) {
			x.find(i, api.FindLate, id, 0)
		}
	}
	met := map[int]int{}
	for _, id := range expired {
		met[id]++
		is := id >= 0 && id < len(x.c.Alarms) && x.c.Alarms[id].Counter == counter && x.dates[id].at == now
		if !is || met[id] > 1 {
			x.find(i, api.FindEarly, id, 0)
		}
	}
	for id, d := range x.dates {
		switch {
		case x.c.Alarms[id].Counter != counter || d.at != now:
		case d.cycle == 0:
			x.dates[id] = date{}
		default:
			x.dates[id] = date{at: now + d.cycle, cycle: d.cycle}
		}
	}
	for _, id := range expired {
		if id >= 0 && id < len(x.c.Alarms) {
			x.act(i, x.c.Alarms[id].Action)
		}
	}
}

// ret: whoever holds something holds it no more.
func (x *reading) ret(i int) {
	who := x.caller(i)
	if x.isTask(who) || x.isIsr(who) {
		x.takings = slices.DeleteFunc(x.takings, func(g taking) bool { return g.who.Kind == who.Kind && g.who.ID == who.ID })
	}
	if x.isTask(who) {
		x.leaves = append(x.leaves, taking{who, 1})
	}
}

// tasks: what services for tasks do, and the limits.
func (x *reading) tasks(i int, s api.Step, status api.Status) {
	who := x.caller(i)
	isChain := s.Service == api.SvChainTask && x.isTask(who)
	if isChain && there(s.A, len(x.c.Tasks)) && int(s.A) == who.ID {
		if status == api.EOK {
			x.leaves = append(x.leaves, taking{who, 0})
			x.wait(i, who.ID)
		}
		return
	}
	if (s.Service == api.SvActivateTask || isChain) && there(s.A, len(x.c.Tasks)) {
		id := int(s.A)
		limit := x.c.Tasks[id].Activation
		switch {
		case status == api.EOK && x.active[id] >= limit:
			x.find(i, api.FindLimit, id, 0)
		case status == api.ELimit && x.active[id] < limit:
			x.find(i, api.FindLimit, id, 0)
		}
		if status == api.EOK {
			x.ask(i, id)
			if isChain {
				x.leaves = append(x.leaves, taking{who, 1})
			}
		}
	}
	if s.Service == api.SvTerminateTask && x.isTask(who) && status == api.EOK {
		x.leaves = append(x.leaves, taking{who, 1})
	}
}

// others: resources, the shutdown.
func (x *reading) others(i int, s api.Step) {
	who := x.caller(i)
	switch s.Service {
	case api.SvGetResource:
		if x.isTask(who) || x.isIsr(who) {
			x.get(i, who, s.A)
		}
	case api.SvReleaseResource:
		var mine []int
		x.takings = slices.DeleteFunc(x.takings, func(g taking) bool {
			is := g.who.Kind == who.Kind && g.who.ID == who.ID
			if is {
				mine = append(mine, g.resource)
			}
			return is && g.resource == int(s.A)
		})
		if len(mine) == 0 || mine[len(mine)-1] != int(s.A) {
			x.find(i, api.FindOrder, int(s.A), 0)
		}
	case api.SvShutdownOS:
		x.isUp = false
		clear(x.active)
		clear(x.inside)
		clear(x.dates)
		x.leaves, x.takings = nil, nil
		for _, w := range x.waits {
			if !w.closed {
				w.closed, w.end = true, i
			}
		}
	}
}

func (x *reading) get(i int, who api.Frame, a uint32) {
	if slices.ContainsFunc(x.takings, func(g taking) bool { return uint32(g.resource) == a }) {
		x.find(i, api.FindHeld, int(a), 0)
	}
	if !x.may(who, a) {
		x.find(i, api.FindCeiling, int(a), 0)
	}
	if there(a, x.resources()) {
		x.takings = append(x.takings, taking{who, int(a)})
	}
}

// may: the ceiling of what one has itself is not below its own priority, so that this need not be asked.
func (x *reading) may(who api.Frame, a uint32) bool {
	own := []int{}
	if x.isTask(who) {
		own = append(own, x.c.Tasks[who.ID].Resources...)
		if x.c.OS.Schedule {
			own = append(own, len(x.c.Resources))
		}
	} else {
		own = append(own, x.c.Isrs[who.ID].Resources...)
	}
	own = slices.DeleteFunc(own, func(r int) bool { return r < len(x.c.Resources) && x.c.Resources[r].Kind == api.ResInternal })
	return slices.ContainsFunc(own, func(r int) bool { return uint32(r) == a })
}

func (x *reading) alarms(s api.Step) {
	if !there(s.A, len(x.c.Alarms)) {
		return
	}
	id := int(s.A)
	switch s.Service {
	case api.SvSetRelAlarm:
		x.set(id, uint64(s.B), s.C)
	case api.SvSetAbsAlarm:
		counter := x.c.Alarms[id].Counter
		round := uint64(x.c.Counters[counter].Max) + 1
		then := min(uint64(s.B), round-1)
		left := (then + round - x.ticks[counter]%round) % round
		if left == 0 {
			left = round
		}
		x.set(id, left, s.C)
	case api.SvCancelAlarm:
		x.dates[id] = date{}
	}
}

func (x *reading) messages(i int, s api.Step, status api.Status) {
	if !there(s.A, len(x.c.Messages)) {
		return
	}
	switch a := int(s.A); {
	case s.Service == api.SvSendMessage && status == api.EOK:
		for id, m := range x.c.Messages {
			if m.From != a || m.Kind == api.MsgSend {
				continue
			}
			if m.Kind == api.MsgQueued && x.values[id] == m.Queue {
				continue
			}
			x.values[id]++
			x.act(i, m.Action)
		}
	case s.Service == api.SvReceiveMessage && (status == api.EOK || status == api.EComLimit):
		if x.values[a] > 0 {
			x.values[a]--
		}
	case s.Service == api.SvInitMessage && status == api.EOK:
		x.values[a] = 0
	}
}

// behind is what the context that runs tells.
func (x *reading) behind(i int, run api.Frame) {
	if slices.Contains([]api.FrameKind{api.FNone, api.FTask, api.FIsr, api.FPre}, run.Kind) {
		for _, l := range x.leaves {
			x.inside[l.who.ID] = false
			if x.active[l.who.ID] >= l.resource {
				x.active[l.who.ID] -= l.resource
			}
		}
		x.leaves = nil
	}
	isOpen := func(w *wait) bool { return !w.closed }
	if x.isTask(run) && !x.inside[run.ID] {
		n := slices.IndexFunc(x.waits, func(w *wait) bool { return isOpen(w) && w.Task == run.ID })
		if n >= 0 {
			w := x.waits[n]
			w.closed, w.end, w.To = true, i, i
			x.inside[run.ID] = true
		}
	}
	if n := slices.IndexFunc(x.waits, isOpen); n >= 0 && run.Kind == api.FNone && x.isUp {
		x.find(i, api.FindIdle, x.waits[n].Task, 0)
	}
}

// count goes through the entries of a window.
func (x *reading) count(w *wait) {
	for i := w.From + 1; i <= w.end; i++ {
		s, who := x.l[i].Step, x.caller(i)
		isDone := !x.l[i].Answer.Idle && (s.Kind == api.SCall || s.Kind == api.SReturn)
		if !isDone || !x.isTask(who) {
			w.Other++
			continue
		}
		if x.c.Tasks[who.ID].Priority >= x.c.Tasks[w.Task].Priority {
			w.Above++
			continue
		}
		w.Blocked++
		if w.Lower == -1 {
			w.Lower = who.ID
		} else if w.Lower != who.ID {
			x.find(i, api.FindBlocked, w.Task, who.ID)
		}
	}
}
