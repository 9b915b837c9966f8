package kernel_test

import (
	"slices"

	"tappet/api"
	"tappet/level"
)

// parameters tells how many parameters each service has; those that are not here have none.
var parameters = map[int]int{1: 1, 2: 1, 4: 1, 6: 1, 9: 1, 16: 1, 17: 1, 18: 2, 19: 1, 20: 1, 21: 1, 22: 1, 23: 1, 24: 3, 25: 3, 26: 1}

// M2.
func (b *book) call(s api.Step) api.Answer {
	status := api.EOK
	var v [3]uint32
	switch {
	case s.Service < 1 || s.Service > 26:
		status = api.EID
	case !level.May(s.Service, b.level()):
		status = api.ECallLevel
	case (b.gate.Shut || b.gate.All > 0 || b.gate.Os > 0) && (s.Service < 10 || s.Service > 15):
		status = api.EDisabled
	default:
		v, status = b.service(s.Service, uint64(s.A), s.B, s.C)
	}
	if status == api.EOK {
		return api.Answer{V: v}
	}
	param := uint32(0)
	if parameters[s.Service] > 0 {
		param = s.A
	}
	b.fail(status, s.Service, param)
	return api.Answer{Status: status}
}

func (b *book) isTask(a uint64) bool  { return a < uint64(len(b.x.Tasks)) }
func (b *book) isAlarm(a uint64) bool { return a < uint64(len(b.x.Alarms)) }

// me is what the caller holds, a task or an ISR, with its base priority and its own.
func (b *book) me() (held *[]int, base int, own []int) {
	f := b.top()
	if f.Kind == api.FIsr {
		return &b.held[f.ID], b.x.Isrs[f.ID].Priority, b.x.Isrs[f.ID].Own
	}
	return &b.tasks[f.ID].held, b.x.Tasks[f.ID].Priority, b.x.Tasks[f.ID].Own
}

func one(v uint32) [3]uint32 { return [3]uint32{v} }

func (b *book) service(service int, a uint64, second, third uint32) ([3]uint32, api.Status) {
	nothing := [3]uint32{}
	switch service {
	case 2:
		return nothing, b.shutdown(a)
	case 3:
		return one(uint32(b.mode)), api.EOK
	case 4, 5, 6, 7:
		return nothing, b.taskService(service, a)
	case 8:
		if b.running() < 0 {
			return one(4294967295), api.EOK
		}
		return one(uint32(b.running())), api.EOK
	case 9:
		if !b.isTask(a) {
			return nothing, api.EID
		}
		return one([]uint32{0, 1, 2, 3}[b.tasks[a].state]), api.EOK
	case 10:
		b.gate.Shut = false
	case 11:
		b.gate.Shut = true
	case 12:
		b.gate.All = max(0, b.gate.All-1)
	case 13:
		b.gate.All = min(255, b.gate.All+1)
	case 14:
		b.gate.Os = max(0, b.gate.Os-1)
	case 15:
		b.gate.Os = min(255, b.gate.Os+1)
	case 16, 17:
		return nothing, b.resourceService(service, a)
	case 18, 19, 20, 21:
		return b.eventService(service, a, second)
	default:
		return b.alarmService(service, a, second, third)
	}
	return nothing, api.EOK
}

// M6, and ActivateTask of M5.
func (b *book) taskService(service int, a uint64) api.Status {
	me := b.running()
	if (service == 4 || service == 6) && !b.isTask(a) {
		return api.EID
	}
	if service != 4 && len(b.tasks[me].held) > 0 {
		return api.EResource
	}
	switch service {
	case 4:
		if !b.activate(int(a)) {
			return api.ELimit
		}
	case 5:
		b.leave(api.LeaveEnd)
	case 6:
		if int(a) == me {
			b.leave(api.LeaveAgain)
		} else if b.activate(int(a)) {
			b.leave(api.LeaveEnd)
		} else {
			return api.ELimit
		}
	case 7:
		if b.greatest() > b.x.Tasks[me].Priority {
			b.leave(api.LeaveYield)
		}
	}
	return api.EOK
}

// M9.
func (b *book) eventService(service int, a uint64, mask uint32) ([3]uint32, api.Status) {
	n := a
	if service == 19 || service == 21 {
		n, mask = uint64(b.running()), uint32(a)
	} else if !b.isTask(n) {
		return [3]uint32{}, api.EID
	}
	if b.x.Tasks[n].Mask == 0 {
		return [3]uint32{}, api.EAccess
	}
	t := &b.tasks[n]
	if t.state == api.Suspended {
		return [3]uint32{}, api.EState
	}
	switch service {
	case 18:
		b.setEvent(int(n), mask)
	case 19:
		t.set &^= mask
	case 20:
		return one(t.set), api.EOK
	case 21:
		if len(t.held) > 0 {
			return [3]uint32{}, api.EResource
		}
		if t.set&mask == 0 {
			t.waits = mask
			b.leave(api.LeaveWait)
		}
	}
	return [3]uint32{}, api.EOK
}

func (b *book) isHeld(r int) bool {
	for _, h := range b.held {
		if slices.Contains(h, r) {
			return true
		}
	}
	return slices.ContainsFunc(b.tasks, func(t bookTask) bool { return slices.Contains(t.held, r) })
}

// M10.
func (b *book) resourceService(service int, a uint64) api.Status {
	if a >= uint64(len(b.x.Resources)) || b.x.Resources[a].Internal {
		return api.EID
	}
	r := int(a)
	held, base, own := b.me()
	if service == 17 {
		if n := len(*held); n == 0 || (*held)[n-1] != r {
			return api.ENoFunc
		}
		*held = slices.Clone((*held)[:len(*held)-1])
		return api.EOK
	}
	if !slices.Contains(own, r) || b.isHeld(r) || base > b.x.Resources[r].Ceiling {
		return api.EAccess
	}
	*held = append(slices.Clone(*held), r)
	return api.EOK
}

// M12.
func (b *book) alarmService(service int, a uint64, value, cycle uint32) ([3]uint32, api.Status) {
	if !b.isAlarm(a) {
		return [3]uint32{}, api.EID
	}
	row := b.x.Counters[b.x.Alarms[a].Counter]
	alarm := &b.alarms[a]
	switch service {
	case 22:
		return [3]uint32{row.Max, row.Base, row.Min}, api.EOK
	case 23, 26:
		if !alarm.Set {
			return [3]uint32{}, api.ENoFunc
		}
		if service == 23 {
			return one(alarm.Left), api.EOK
		}
		*alarm = api.AlarmLook{}
		return [3]uint32{}, api.EOK
	}
	if alarm.Set {
		return [3]uint32{}, api.EState
	}
	if value > row.Max || service == 24 && value == 0 || cycle != 0 && (cycle < row.Min || cycle > row.Max) {
		return [3]uint32{}, api.EValue
	}
	left := value
	if service == 25 {
		now := b.counters[b.x.Alarms[a].Counter]
		for left = 1; (uint64(now)+uint64(left))%(uint64(row.Max)+1) != uint64(value); left++ {
		}
	}
	*alarm = api.AlarmLook{Set: true, Left: left, Cycle: cycle}
	return [3]uint32{}, api.EOK
}

// M13.
func (b *book) shutdown(a uint64) api.Status {
	counters, mode, marks, begun := b.counters, b.mode, b.marks, b.begun
	*b = *newBook(b.x)
	b.phase, b.counters, b.mode, b.marks, b.begun = api.Down, counters, mode, marks, begun
	b.begin(api.UseShutdown, api.Frame{Kind: api.FShutdown, Status: api.Status(a)})
	return api.EOK
}
