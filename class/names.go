package class

import "tappet/api"

// named answers what the things of a list are called.
func named[T any](l []T, name func(T) string) []string {
	out := make([]string, 0, len(l))
	for _, x := range l {
		out = append(out, name(x))
	}
	return out
}

func cpuNames(c api.Config) []string { return []string{c.CPU} }

func osNames(c api.Config) []string { return []string{c.OS.Name} }

func modeNames(c api.Config) []string { return c.Modes }

func resourceNames(c api.Config) []string {
	return named(c.Resources, func(x api.Resource) string { return x.Name })
}

func eventNames(c api.Config) []string {
	return named(c.Events, func(x api.Event) string { return x.Name })
}

func taskNames(c api.Config) []string {
	return named(c.Tasks, func(x api.Task) string { return x.Name })
}

func counterNames(c api.Config) []string {
	return named(c.Counters, func(x api.Counter) string { return x.Name })
}

func alarmNames(c api.Config) []string {
	return named(c.Alarms, func(x api.Alarm) string { return x.Name })
}

func isrNames(c api.Config) []string {
	return named(c.Isrs, func(x api.Isr) string { return x.Name })
}

func messageNames(c api.Config) []string {
	return named(c.Messages, func(x api.Message) string { return x.Name })
}
