package table

import (
	"slices"

	"tappet/api"
)

func countsFit(t api.Tables) bool {
	return within(t.Uses, 0, everyUse) && within(t.Modes, 1, api.MaxModes) &&
		within(len(t.Tasks), 1, api.MaxTasks) && len(t.Resources) <= api.MaxResources+1 &&
		len(t.Counters) <= api.MaxCounters && len(t.Alarms) <= api.MaxAlarms &&
		len(t.Isrs) <= api.MaxIsrs && len(t.Messages) <= api.MaxMessages
}

// everyUse is the sum of all that an OS may say.
const everyUse = api.UseStartup + api.UseError + api.UseShutdown + api.UsePre + api.UsePost + api.UseService + api.UseParams + api.UseSchedule

func resourcesFit(t api.Tables) bool {
	return every(t.Resources, func(r api.ResourceRow) bool { return within(r.Ceiling, -1, api.MaxIsr) })
}

func ringsFit(t api.Tables) bool {
	ahead := api.MaxPriority + 1
	for _, r := range t.Rings {
		if !within(r.Priority, 0, ahead-1) || !hasTask(t, r.Priority) || r.Capacity != capacity(t.Tasks, r.Priority) {
			return false
		}
		ahead = r.Priority
	}
	return true
}

func hasTask(t api.Tables, priority int) bool {
	return slices.ContainsFunc(t.Tasks, func(x api.TaskRow) bool { return x.Priority == priority })
}

func tasksFit(t api.Tables) bool {
	return every(t.Tasks, func(x api.TaskRow) bool {
		return isID(x.Ring, t.Rings) && t.Rings[x.Ring].Priority == x.Priority && limitFits(x) &&
			(x.Internal == -1 || within(x.Internal, x.Priority, api.MaxIsr)) &&
			ownFits(t, x.Own, x.Priority) && autoFits(t, x.Auto)
	})
}

// limitFits tells whether a task's limit may be: one with events is started once at a time.
func limitFits(x api.TaskRow) bool {
	if x.Mask != 0 {
		return x.Limit == 1
	}
	return within(x.Limit, 1, api.MaxActivate)
}

// ownFits tells whether one of a priority may take these resources.
func ownFits(t api.Tables, ids []int, priority int) bool {
	ahead := -1
	for _, id := range ids {
		if id <= ahead || !isID(id, t.Resources) || t.Resources[id].Internal || t.Resources[id].Ceiling < priority {
			return false
		}
		ahead = id
	}
	return true
}

// autoFits tells whether bits are those of modes.
func autoFits(t api.Tables, auto uint32) bool { return auto < 1<<t.Modes }

func countersFit(t api.Tables) bool {
	return every(t.Counters, func(k api.CounterRow) bool {
		return within(k.Max, 1, api.MaxTick) && within(k.Base, 1, api.MaxTick) && within(k.Min, 1, k.Max)
	})
}

func alarmsFit(t api.Tables) bool {
	return every(t.Alarms, func(a api.AlarmRow) bool {
		return isID(a.Counter, t.Counters) && actionFits(t, a.Action, api.ActTask, api.ActCallback) &&
			autoFits(t, a.Auto) && timesFit(a, t.Counters[a.Counter])
	})
}

func timesFit(a api.AlarmRow, k api.CounterRow) bool {
	if a.Auto == 0 {
		return a.Time == 0 && a.Cycle == 0
	}
	return within(a.Time, 1, k.Max) && (a.Cycle == 0 || within(a.Cycle, k.Min, k.Max))
}

// actionFits tells whether an action may be where the kinds from least to most may stand.
func actionFits(t api.Tables, a api.ActionRow, least, most api.ActionKind) bool {
	if !within(a.Kind, least, most) {
		return false
	}
	switch a.Kind {
	case api.ActTask:
		return isID(a.Task, t.Tasks) && a.Mask == 0
	case api.ActEvent:
		return isID(a.Task, t.Tasks) && a.Mask != 0 && a.Mask&^t.Tasks[a.Task].Mask == 0
	}
	return a.Task == 0 && a.Mask == 0
}

func isrsFit(t api.Tables) bool {
	for id, x := range t.Isrs {
		if !isrFits(t, x) || !every(t.Isrs[:id], func(ahead api.IsrRow) bool { return areApart(ahead, x) }) {
			return false
		}
	}
	return true
}

func isrFits(t api.Tables, x api.IsrRow) bool {
	return within(x.Category, 1, 2) && within(x.Priority, api.IsrBase, api.MaxIsr) &&
		(x.Category == 2 || len(x.Own) == 0) && ownFits(t, x.Own, x.Priority)
}

// areApart tells whether two ISRs have a priority each, one of category 1 above one of category 2.
func areApart(a, b api.IsrRow) bool {
	return a.Priority != b.Priority && (a.Category == b.Category || (a.Category < b.Category) == (a.Priority > b.Priority))
}

// messagesFit looks at the fields of all ahead of what a received one has from a sent one.
func messagesFit(t api.Tables) bool {
	return every(t.Messages, fieldsFit) && every(t.Messages, func(m api.MessageRow) bool {
		if m.Kind == api.MsgSend {
			return actionFits(t, m.Action, api.ActNone, api.ActNone)
		}
		return senderFits(t, m) && actionFits(t, m.Action, api.ActNone, api.ActFlag)
	})
}

// fieldsFit tells whether a message's kind is one, and each field as the kind has use for it.
func fieldsFit(m api.MessageRow) bool {
	switch m.Kind {
	case api.MsgSend:
		return slices.Contains([]int{1, 2, 4, 8}, m.Length) && m.From == 0 && m.Init == 0 && m.Queue == 0
	case api.MsgUnqueued:
		return m.Length == 0 && m.Init <= api.MaxNumber && m.Queue == 0
	case api.MsgQueued:
		return m.Length == 0 && m.Init == 0 && within(m.Queue, 1, api.MaxQueue)
	}
	return false
}

// senderFits tells whether a received message is from a sent one, with a first value of as many bytes at most.
func senderFits(t api.Tables, m api.MessageRow) bool {
	if !isID(m.From, t.Messages) || t.Messages[m.From].Kind != api.MsgSend {
		return false
	}
	return m.Init>>(8*t.Messages[m.From].Length) == 0
}

func roomFits(t api.Tables) bool {
	return reckon(t) == room{t.Depth, t.Frames, t.Errors, t.Callbacks}
}
