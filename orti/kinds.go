package orti

import (
	"strconv"

	"tappet/api"
)

// What tasks are, by their kind.
const (
	extended = "EXTENDED"
	basic    = "BASIC"
)

func system() form { return form{"OS", []string{"RUNNINGTASK"}} }

func tasks() kind[api.OrtiTask] {
	return kind[api.OrtiTask]{
		form{"TASK", []string{"PRIORITY", "STATE", "ACTIVATIONS", "KIND"}},
		tellTask,
		func(name string, values []string) (api.OrtiTask, bool) {
			return api.OrtiTask{Name: name, Extended: values[3] == extended}, true
		},
	}
}

func tellTask(i int, t api.OrtiTask) (string, []string) {
	word := basic
	if t.Extended {
		word = extended
	}
	return t.Name, []string{asks("$priority", i), asks("$state", i), asks("$active", i), word}
}

func resources() kind[api.OrtiResource] {
	return kind[api.OrtiResource]{
		form{"RESOURCE", []string{"CEILING", "LOCKER"}},
		func(i int, r api.OrtiResource) (string, []string) {
			return r.Name, []string{strconv.Itoa(r.Ceiling), asks("$locker", i)}
		},
		func(name string, values []string) (api.OrtiResource, bool) {
			ceiling, ok := number(values[0])
			return api.OrtiResource{Name: name, Ceiling: ceiling}, ok
		},
	}
}

func alarms() kind[api.OrtiAlarm] {
	return kind[api.OrtiAlarm]{
		form{"ALARM", []string{"COUNTER", "ACTION", "ALARMTIME", "CYCLETIME"}},
		func(i int, a api.OrtiAlarm) (string, []string) {
			return a.Name, []string{a.Counter, a.Action, asks("$left", i), asks("$cycle", i)}
		},
		func(name string, values []string) (api.OrtiAlarm, bool) {
			return api.OrtiAlarm{Name: name, Counter: values[0], Action: values[1]}, true
		},
	}
}

func isrs() kind[api.OrtiIsr] {
	return kind[api.OrtiIsr]{
		form{"ISR", []string{"CATEGORY", "PRIORITY", "REQUESTED"}},
		func(i int, x api.OrtiIsr) (string, []string) {
			return x.Name, []string{strconv.Itoa(x.Category), strconv.Itoa(x.Priority), asks("$requested", i)}
		},
		func(name string, values []string) (api.OrtiIsr, bool) {
			category, ok := number(values[0])
			priority, also := number(values[1])
			return api.OrtiIsr{Name: name, Category: category, Priority: priority}, ok && also
		},
	}
}
