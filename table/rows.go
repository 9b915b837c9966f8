package table

import (
	"cmp"
	"slices"

	"tappet/api"
)

// tables lays out a configuration that may be: its ids are places, its numbers fit.
func tables(c api.Config, ceils api.Ceils) api.Tables {
	levels := priorities(c.Tasks)
	t := api.Tables{
		Uses:      uses(c.OS),
		Modes:     len(c.Modes),
		Tasks:     taskRows(c, ceils, levels),
		Resources: resourceRows(c, ceils),
		Counters:  rows(c.Counters, counterRow),
		Alarms:    alarmRows(c),
		Isrs:      rows(c.Isrs, isrRow),
		Messages:  messageRows(c),
	}
	t.Rings = rows(levels, func(p int) api.RingRow { return api.RingRow{Priority: p, Capacity: capacity(t.Tasks, p)} })
	r := reckon(t)
	t.Depth, t.Frames, t.Errors, t.Callbacks = r.depth, r.frames, r.errors, r.callbacks
	return t
}

// use is a thing that an OS may say, and its bit.
type use struct {
	said bool
	bit  int
}

func uses(os api.Os) int {
	all := []use{
		{os.Startup, api.UseStartup}, {os.Error, api.UseError}, {os.Shutdown, api.UseShutdown}, {os.PreTask, api.UsePre},
		{os.PostTask, api.UsePost}, {os.Service, api.UseService}, {os.Params, api.UseParams}, {os.Schedule, api.UseSchedule},
	}
	return sum(those(all, func(u use) bool { return u.said }), func(u use) int { return u.bit })
}

// priorities answers the base priorities that tasks have, falling, each once: the places of rings.
func priorities(tasks []api.Task) []int {
	l := rows(tasks, func(t api.Task) int { return t.Priority })
	slices.SortFunc(l, func(a, b int) int { return cmp.Compare(b, a) })
	return slices.Compact(l)
}

// capacity is the room that the ring of a priority needs: of all its tasks every start that may be asked at once.
func capacity(tasks []api.TaskRow, priority int) int {
	return sum(tasks, func(t api.TaskRow) int {
		if t.Priority != priority {
			return 0
		}
		return t.Limit
	})
}

func resourceRows(c api.Config, ceils api.Ceils) []api.ResourceRow {
	l := make([]api.ResourceRow, 0, len(c.Resources)+1)
	for id, ceiling := range ceils.Resources {
		l = append(l, api.ResourceRow{Internal: isInternal(c, id), Ceiling: ceiling})
	}
	if c.OS.Schedule {
		l = append(l, api.ResourceRow{Ceiling: ceils.Scheduler})
	}
	return l
}

func isInternal(c api.Config, resource int) bool {
	return c.Resources[resource].Kind == api.ResInternal
}

func taskRows(c api.Config, ceils api.Ceils, levels []int) []api.TaskRow {
	return rows(c.Tasks, func(t api.Task) api.TaskRow {
		return api.TaskRow{
			Priority: t.Priority,
			Ring:     slices.Index(levels, t.Priority),
			Full:     t.Full,
			Limit:    t.Activation,
			Mask:     mask(c, t.Events),
			Internal: internal(c, ceils, t.Resources),
			Own:      own(c, t.Resources),
			Auto:     bits(t.Auto),
		}
	})
}

// mask puts the masks of events together.
func mask(c api.Config, events []int) uint32 {
	var out uint32
	for _, event := range events {
		out |= c.Events[event].Mask
	}
	return out
}

// internal answers the ceiling of the internal resource among some, or -1.
func internal(c api.Config, ceils api.Ceils, resources []int) int {
	at := slices.IndexFunc(resources, func(id int) bool { return isInternal(c, id) })
	if at < 0 {
		return -1
	}
	return ceils.Resources[resources[at]]
}

// own answers what a task may take: RES_SCHEDULER, where it is used, is every task's.
func own(c api.Config, resources []int) []int {
	l := those(resources, func(id int) bool { return !isInternal(c, id) })
	if c.OS.Schedule {
		l = append(l, len(c.Resources))
	}
	return l
}

func counterRow(k api.Counter) api.CounterRow {
	return api.CounterRow{Max: k.Max, Base: k.Base, Min: k.Min}
}

func alarmRows(c api.Config) []api.AlarmRow {
	return rows(c.Alarms, func(a api.Alarm) api.AlarmRow {
		return api.AlarmRow{Counter: a.Counter, Action: actionRow(c, a.Action), Auto: bits(a.Auto), Time: a.Time, Cycle: a.Cycle}
	})
}

func isrRow(i api.Isr) api.IsrRow {
	return api.IsrRow{Category: i.Category, Priority: i.Priority, Own: slices.Clone(i.Resources)}
}

func messageRows(c api.Config) []api.MessageRow {
	return rows(c.Messages, func(m api.Message) api.MessageRow {
		return api.MessageRow{Kind: m.Kind, Length: m.Length, From: m.From, Init: m.Init, Queue: m.Queue, Action: actionRow(c, m.Action)}
	})
}

// actionRow asks for an event where one is set alone: elsewhere the number 0 means none.
func actionRow(c api.Config, a api.Action) api.ActionRow {
	row := api.ActionRow{Kind: a.Kind, Task: a.Task}
	if a.Kind == api.ActEvent {
		row.Mask = c.Events[a.Event].Mask
	}
	return row
}
