package kernel_test

import (
	"fmt"
	"reflect"
	"slices"
	"testing"

	"tappet/api"
	"tappet/kernel"
	"tappet/level"
)

// book reads DOC.md's section 'The machine' a second time, slowly and word by word, of tables: lists that are gone through, and nothing of the layers below but which service which level lets be called.
type book struct {
	x         api.Tables
	phase     api.Phase
	mode      int
	tasks     []bookTask
	rings     [][]int
	preempted []int
	frames    []bookFrame
	held      [][]int
	requested []bool
	gate      api.Gate
	counters  []uint32
	alarms    []api.AlarmLook
	errors    []api.Frame
	callbacks []int
	leaving   api.LeaveKind
	marks     api.Marks
	begun     []api.Frame
}

type bookTask struct {
	state      api.TaskState
	active     int
	set, waits uint32
	held       []int
	internal   bool
}

type bookFrame struct {
	api.Frame
	gate api.Gate
}

func newBook(x api.Tables) *book {
	b := &book{x: copied(x)}
	for range x.Tasks {
		b.tasks = append(b.tasks, bookTask{state: api.Suspended})
	}
	b.rings, b.held = make([][]int, len(x.Rings)), make([][]int, len(x.Isrs))
	b.requested, b.counters, b.alarms = make([]bool, len(x.Isrs)), make([]uint32, len(x.Counters)), make([]api.AlarmLook, len(x.Alarms))
	b.marks.Rings = make([]int, len(x.Rings))
	return b
}

func lists(l [][]int) [][]int {
	l = slices.Clone(l)
	for i := range l {
		l[i] = append([]int(nil), l[i]...)
	}
	return l
}

func (b *book) copy() *book {
	c := *b
	c.tasks, c.rings, c.held = slices.Clone(b.tasks), lists(b.rings), lists(b.held)
	for i := range c.tasks {
		c.tasks[i].held = slices.Clone(c.tasks[i].held)
	}
	c.preempted, c.frames, c.requested = slices.Clone(b.preempted), slices.Clone(b.frames), slices.Clone(b.requested)
	c.counters, c.alarms = slices.Clone(b.counters), slices.Clone(b.alarms)
	c.errors, c.callbacks, c.marks.Rings = slices.Clone(b.errors), slices.Clone(b.callbacks), slices.Clone(b.marks.Rings)
	return &c
}

// key tells two states apart; marks are none of it.
func (b *book) key() string {
	return fmt.Sprint(b.phase, b.mode, b.tasks, b.rings, b.preempted, b.frames, b.held, b.requested, b.gate, b.counters, b.alarms, b.errors, b.callbacks, b.leaving)
}

// mark is looked at behind each thing (P22.5).
func (b *book) mark() {
	for i, r := range b.rings {
		b.marks.Rings[i] = max(b.marks.Rings[i], len(r))
	}
	b.marks.Preempted = max(b.marks.Preempted, len(b.preempted))
	b.marks.Frames = max(b.marks.Frames, len(b.frames))
	b.marks.Errors = max(b.marks.Errors, len(b.errors))
	b.marks.Callbacks = max(b.marks.Callbacks, len(b.callbacks))
}

func (b *book) top() bookFrame {
	if len(b.frames) == 0 {
		return bookFrame{}
	}
	return b.frames[len(b.frames)-1]
}

func (b *book) pop() { b.frames = b.frames[:len(b.frames)-1] }

func isRoutine(k api.FrameKind) bool { return k >= api.FStartup }

// running is the task at the bottom of the frames, or -1.
func (b *book) running() int {
	if len(b.frames) > 0 && b.frames[0].Kind == api.FTask {
		return b.frames[0].ID
	}
	return -1
}

// priority: M, 'Its current priority'.
func (b *book) priority(n int) int {
	p := b.x.Tasks[n].Priority
	for _, r := range b.tasks[n].held {
		p = max(p, b.x.Resources[r].Ceiling)
	}
	if b.tasks[n].internal {
		p = max(p, b.x.Tasks[n].Internal)
	}
	return p
}

func (b *book) isrPriority(n int) int {
	p := b.x.Isrs[n].Priority
	for _, r := range b.held[n] {
		p = max(p, b.x.Resources[r].Ceiling)
	}
	return p
}

func (b *book) begin(uses int, f api.Frame) {
	if uses != 0 && b.x.Uses&uses == 0 {
		return
	}
	b.frames = append(b.frames, bookFrame{f, b.gate})
	b.begun = append(b.begun, f)
	b.mark()
}

func (b *book) fail(s api.Status, service int, param uint32) {
	for _, f := range b.frames {
		if f.Kind == api.FError {
			return
		}
	}
	b.errors = append(b.errors, api.Frame{Kind: api.FError, Status: s, Service: service, Param: param})
	b.mark()
}

func (b *book) join(n int) {
	r := b.x.Tasks[n].Ring
	b.rings[r] = append(b.rings[r], n)
	b.mark()
}

// greatest is the greatest base priority of a ring that is not empty, or -1.
func (b *book) greatest() int {
	for i, r := range b.rings {
		if len(r) > 0 {
			return b.x.Rings[i].Priority
		}
	}
	return -1
}

// M5.
func (b *book) activate(n int) bool {
	if b.tasks[n].active == b.x.Tasks[n].Limit {
		return false
	}
	b.tasks[n].active++
	if b.tasks[n].state == api.Suspended {
		b.tasks[n].state, b.tasks[n].set = api.Ready, 0
	}
	b.join(n)
	return true
}

// M7, its beginning.
func (b *book) leave(how api.LeaveKind) {
	b.leaving = how
	b.begin(api.UsePost, api.Frame{Kind: api.FPost, ID: b.running()})
}

// M9.
func (b *book) setEvent(n int, mask uint32) {
	t := &b.tasks[n]
	t.set |= mask
	if t.state == api.Waiting && t.set&t.waits != 0 {
		t.state, t.waits = api.Ready, 0
		b.join(n)
	}
}

// M4, of an action.
func (b *book) act(a api.ActionRow, callback int) {
	switch a.Kind {
	case api.ActTask:
		if !b.activate(a.Task) {
			b.fail(api.ELimit, 4, uint32(a.Task))
		}
	case api.ActEvent:
		if b.tasks[a.Task].state == api.Suspended {
			b.fail(api.EState, 18, uint32(a.Task))
		} else {
			b.setEvent(a.Task, a.Mask)
		}
	case api.ActCallback:
		if !slices.Contains(b.callbacks, callback) {
			b.callbacks = append(b.callbacks, callback)
			b.mark()
		}
	}
}

func (b *book) step(s api.Step) api.Answer {
	var a api.Answer
	switch {
	case s.Kind == api.SStart && b.phase == api.Off:
		a = b.start(s.ID)
	case s.Kind == api.SCall && len(b.frames) > 0:
		a = b.call(s)
	case s.Kind == api.SReturn && len(b.frames) > 0:
		a = b.goBack()
	case s.Kind == api.SIrq && b.phase == api.Up:
		if s.ID < 0 || s.ID >= len(b.x.Isrs) {
			a.Status = api.EID
		} else {
			b.requested[s.ID] = true
		}
	case s.Kind == api.STick && b.phase == api.Up:
		a = b.tick(s.ID)
	default:
		return api.Answer{Idle: true, Run: b.top().Frame}
	}
	return b.settled(a)
}

func (b *book) settled(a api.Answer) api.Answer {
	b.settle()
	a.Run, a.Begun = b.top().Frame, b.begun
	b.begun = nil
	return a
}

// M1.
func (b *book) start(mode int) api.Answer {
	if mode < 0 || mode >= b.x.Modes {
		return api.Answer{Status: api.EID}
	}
	b.phase, b.mode = api.Up, mode
	for n, row := range b.x.Tasks {
		if row.Auto&(1<<mode) != 0 {
			b.activate(n)
		}
	}
	for n, row := range b.x.Alarms {
		if row.Auto&(1<<mode) != 0 {
			b.alarms[n] = api.AlarmLook{Set: true, Left: row.Time, Cycle: row.Cycle}
		}
	}
	b.begin(api.UseStartup, api.Frame{Kind: api.FStartup})
	return api.Answer{}
}

// M3.
func (b *book) goBack() api.Answer {
	f := b.top()
	switch f.Kind {
	case api.FTask:
		b.tasks[f.ID].held = nil
		b.gate = api.Gate{}
		b.fail(api.EMissingEnd, 5, 0)
		b.leave(api.LeaveEnd)
		return api.Answer{Status: api.EMissingEnd}
	case api.FIsr:
		if h := b.held[f.ID]; len(h) > 0 {
			b.held[f.ID] = nil
			b.fail(api.EResource, 17, uint32(h[len(h)-1]))
		}
		if b.gate != f.gate {
			b.fail(api.EDisabled, 0, 0)
		}
	}
	b.gate = f.gate
	b.pop()
	return api.Answer{}
}

// M4.
func (b *book) tick(n int) api.Answer {
	if n < 0 || n >= len(b.x.Counters) {
		return api.Answer{Status: api.EID}
	}
	if b.counters[n]++; b.counters[n] > b.x.Counters[n].Max {
		b.counters[n] = 0
	}
	var expired []int
	for i := range b.alarms {
		a := &b.alarms[i]
		if b.x.Alarms[i].Counter != n || !a.Set {
			continue
		}
		if a.Left--; a.Left > 0 {
			continue
		}
		expired = append(expired, i)
		if a.Left = a.Cycle; a.Cycle == 0 {
			*a = api.AlarmLook{}
		}
	}
	for _, i := range expired {
		b.act(b.x.Alarms[i].Action, i)
	}
	return api.Answer{Expired: expired}
}

// P22.8.
func (b *book) effect(x api.Effect) api.Answer {
	if len(b.frames) == 0 {
		return api.Answer{Idle: true}
	}
	if x.Status != api.EOK {
		b.fail(x.Status, x.Service, x.Param)
	}
	for _, d := range x.Deeds {
		a := d.Action
		task := a.Task >= 0 && a.Task < len(b.x.Tasks)
		if a.Kind == api.ActTask && task && a.Mask == 0 ||
			a.Kind == api.ActEvent && task && a.Mask != 0 && a.Mask|b.x.Tasks[a.Task].Mask == b.x.Tasks[a.Task].Mask ||
			a.Kind == api.ActCallback && a.Task == 0 && a.Mask == 0 {
			b.act(a, d.Callback)
		}
	}
	return b.settled(api.Answer{Status: x.Status})
}

// M7, carried out.
func (b *book) carry() {
	n := b.running()
	t := &b.tasks[n]
	how := b.leaving
	b.leaving = api.LeaveNone
	b.pop()
	if how != api.LeavePreempt {
		t.internal = false
	}
	t.state = api.Ready
	switch how {
	case api.LeaveEnd:
		if t.active--; t.active == 0 {
			t.state = api.Suspended
		}
	case api.LeaveAgain:
		t.set = 0
		b.join(n)
	case api.LeaveWait:
		if t.set&t.waits != 0 {
			t.waits = 0
			b.join(n)
		} else {
			t.state = api.Waiting
		}
	default:
		b.preempted = append(b.preempted, n)
		b.mark()
	}
}

// M8.
func (b *book) best() {
	n, last := -1, len(b.preempted)-1
	if last >= 0 && b.priority(b.preempted[last]) >= b.greatest() {
		n, b.preempted = b.preempted[last], b.preempted[:last]
	} else {
		i := slices.IndexFunc(b.rings, func(r []int) bool { return len(r) > 0 })
		n, b.rings[i] = b.rings[i][0], b.rings[i][1:]
	}
	b.tasks[n].state, b.tasks[n].internal = api.Running, b.x.Tasks[n].Internal >= 0
	b.frames = append(b.frames, bookFrame{api.Frame{Kind: api.FTask, ID: n}, b.gate})
	b.mark()
	b.begin(api.UsePre, api.Frame{Kind: api.FPre, ID: n})
}

// taken is the ISR that can be taken, or -1.
func (b *book) taken() int {
	above := -1
	switch f := b.top(); f.Kind {
	case api.FTask:
		above = b.priority(f.ID)
	case api.FIsr:
		above = b.isrPriority(f.ID)
	}
	best := -1
	for i, row := range b.x.Isrs {
		if !b.requested[i] || b.gate.Shut || b.gate.All > 0 || row.Category == 2 && b.gate.Os > 0 || row.Priority <= above {
			continue
		}
		if best < 0 || row.Priority > b.x.Isrs[best].Priority {
			best = i
		}
	}
	return best
}

// M14.
func (b *book) settle() {
	for {
		top, run := b.top(), b.running()
		switch {
		case top.Kind == api.FError:
			return
		case len(b.errors) > 0:
			f := b.errors[0]
			b.errors = b.errors[1:]
			b.begin(api.UseError, f)
		case top.Kind == api.FCallback:
			return
		case len(b.callbacks) > 0:
			n := b.callbacks[0]
			b.callbacks = b.callbacks[1:]
			b.begin(0, api.Frame{Kind: api.FCallback, ID: n})
		case isRoutine(top.Kind), b.phase != api.Up:
			return
		case b.leaving != api.LeaveNone:
			b.carry()
		case b.taken() >= 0:
			n := b.taken()
			b.requested[n] = false
			b.frames = append(b.frames, bookFrame{api.Frame{Kind: api.FIsr, ID: n}, b.gate})
			b.mark()
		case top.Kind == api.FIsr:
			return
		case run < 0 && (b.greatest() >= 0 || len(b.preempted) > 0):
			b.best()
		case run >= 0 && b.x.Tasks[run].Full && b.gate == api.Gate{} && b.greatest() > b.priority(run):
			b.leave(api.LeavePreempt)
		default:
			return
		}
	}
}

func (b *book) look() api.Look {
	l := api.Look{Phase: b.phase, Mode: b.mode, Held: b.held, Shut: b.gate.Shut, All: b.gate.All, Os: b.gate.Os, Counters: b.counters, Alarms: b.alarms, Rings: b.rings, Preempted: b.preempted}
	for n, t := range b.tasks {
		l.Tasks = append(l.Tasks, api.TaskLook{State: t.state, Priority: b.priority(n), Active: t.active, Set: t.set, Waits: t.waits, Held: t.held, Internal: t.internal})
	}
	for _, f := range b.frames {
		l.Frames = append(l.Frames, f.Frame)
	}
	for n, is := range b.requested {
		if is {
			l.Requested = append(l.Requested, n)
		}
	}
	return plain(l)
}

// level is that of the context that runs.
func (b *book) level() api.Level {
	f, category := b.top(), 0
	if f.Kind == api.FIsr {
		category = b.x.Isrs[f.ID].Category
	}
	return level.Of(f.Kind, category)
}

// plain is a look in memory of its own, with nil for lists that are empty.
func plain(l api.Look) api.Look {
	l.Tasks, l.Frames = append([]api.TaskLook(nil), l.Tasks...), append([]api.Frame(nil), l.Frames...)
	for i := range l.Tasks {
		l.Tasks[i].Held = append([]int(nil), l.Tasks[i].Held...)
	}
	l.Requested, l.Preempted = append([]int(nil), l.Requested...), append([]int(nil), l.Preempted...)
	l.Held, l.Rings = append([][]int(nil), lists(l.Held)...), append([][]int(nil), lists(l.Rings)...)
	l.Counters, l.Alarms = append([]uint32(nil), l.Counters...), append([]api.AlarmLook(nil), l.Alarms...)
	return l
}

func plainAnswer(a api.Answer) api.Answer {
	a.Begun, a.Expired = append([]api.Frame(nil), a.Begun...), append([]int(nil), a.Expired...)
	return a
}

// stands: the kernel tells of itself what the book does, and no room was too small (P22.7).
func stands(t *testing.T, k *kernel.Kernel, b *book) {
	t.Helper()
	if l, want := plain(k.Look()), b.look(); !reflect.DeepEqual(l, want) {
		t.Fatalf("Look: %+v, not %+v", l, want)
	}
	if m := k.Marks(); !reflect.DeepEqual(m, b.marks) {
		t.Fatalf("Marks: %+v, not %+v", m, b.marks)
	}
}

// hasRoom: P22.7.
func hasRoom(t *testing.T, k *kernel.Kernel, x api.Tables) {
	t.Helper()
	m := k.Marks()
	for i, r := range x.Rings {
		if m.Rings[i] > r.Capacity {
			t.Fatalf("ring %d had %d, and room for %d", i, m.Rings[i], r.Capacity)
		}
	}
	if m.Preempted > x.Depth || m.Frames > x.Frames || m.Errors > x.Errors || m.Callbacks > x.Callbacks {
		t.Fatalf("Marks: %+v; Depth %d, Frames %d, Errors %d, Callbacks %d", m, x.Depth, x.Frames, x.Errors, x.Callbacks)
	}
}
