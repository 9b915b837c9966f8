package orti

import (
	"tappet/api"
	"tappet/class"
)

// scheduler is what the resource is called that the scheduler is.
const scheduler = "RES_SCHEDULER"

func taskFacts(c api.Config) []api.OrtiTask {
	var l []api.OrtiTask
	for id, t := range c.Tasks {
		l = append(l, api.OrtiTask{Name: t.Name, Extended: class.Extended(c, id)})
	}
	return l
}

func resourceFacts(c api.Config, ceils api.Ceils) []api.OrtiResource {
	var l []api.OrtiResource
	for id, r := range c.Resources {
		l = append(l, api.OrtiResource{Name: r.Name, Ceiling: ceils.Resources[id]})
	}
	if c.OS.Schedule {
		l = append(l, api.OrtiResource{Name: scheduler, Ceiling: ceils.Scheduler})
	}
	return l
}

func alarmFacts(c api.Config) []api.OrtiAlarm {
	var l []api.OrtiAlarm
	for _, a := range c.Alarms {
		l = append(l, api.OrtiAlarm{Name: a.Name, Counter: c.Counters[a.Counter].Name, Action: actionText(c, a.Action)})
	}
	return l
}

// actionText is the action of an alarm of a configuration that may be.
func actionText(c api.Config, a api.Action) string {
	switch a.Kind {
	case api.ActTask:
		return activates + " " + c.Tasks[a.Task].Name
	case api.ActEvent:
		return setsEvent + " " + c.Tasks[a.Task].Name + " " + c.Events[a.Event].Name
	default:
		return callsBack + " " + a.Name
	}
}

func isrFacts(c api.Config) []api.OrtiIsr {
	var l []api.OrtiIsr
	for _, i := range c.Isrs {
		l = append(l, api.OrtiIsr{Name: i.Name, Category: i.Category, Priority: i.Priority})
	}
	return l
}
