package names

import (
	"slices"

	"tappet/api"
)

// same tells whether two configurations say the same; nil and empty lists do.
func same(a, b api.Config) bool {
	return a.CPU == b.CPU && a.OS == b.OS &&
		slices.Equal(a.Modes, b.Modes) &&
		slices.EqualFunc(a.Tasks, b.Tasks, sameTask) &&
		slices.Equal(a.Resources, b.Resources) &&
		slices.Equal(a.Events, b.Events) &&
		slices.Equal(a.Counters, b.Counters) &&
		slices.EqualFunc(a.Alarms, b.Alarms, sameAlarm) &&
		slices.EqualFunc(a.Isrs, b.Isrs, sameIsr) &&
		slices.Equal(a.Messages, b.Messages)
}

func sameTask(a, b api.Task) bool {
	return a.Name == b.Name && a.Priority == b.Priority && a.Full == b.Full && a.Activation == b.Activation &&
		slices.Equal(a.Auto, b.Auto) &&
		slices.Equal(a.Resources, b.Resources) &&
		slices.Equal(a.Events, b.Events) &&
		slices.Equal(a.Messages, b.Messages)
}

func sameAlarm(a, b api.Alarm) bool {
	return a.Name == b.Name && a.Counter == b.Counter && a.Action == b.Action && a.Time == b.Time && a.Cycle == b.Cycle &&
		slices.Equal(a.Auto, b.Auto)
}

func sameIsr(a, b api.Isr) bool {
	return a.Name == b.Name && a.Category == b.Category && a.Priority == b.Priority &&
		slices.Equal(a.Resources, b.Resources) &&
		slices.Equal(a.Messages, b.Messages)
}
