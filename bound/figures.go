package bound

import (
	"slices"

	"tappet/api"
)

// timesFit tells whether there is a time for each task and each ISR, and no other one. An ISR's work may be nothing.
func timesFit(c api.Config, f api.Figures) bool {
	return areTimes(f.Work, len(c.Tasks), 1) && areTimes(f.Period, len(c.Tasks), 1) &&
		areTimes(f.IsrWork, len(c.Isrs), 0) && areTimes(f.IsrEvery, len(c.Isrs), 1)
}

func areTimes(l []uint64, many int, least uint64) bool {
	if len(l) != many {
		return false
	}
	for _, t := range l {
		if t < least || t > api.MaxTick {
			return false
		}
	}
	return true
}

// sectionsFit relies on times that fit.
func sectionsFit(c api.Config, f api.Figures) bool {
	for _, x := range f.Sections {
		if x.Task < 0 || x.Task >= len(c.Tasks) || !mayTake(c, x.Task, x.Resource) || x.Length > f.Work[x.Task] {
			return false
		}
	}
	return true
}

// mayTake tells whether a task may take a resource by a call. RES_SCHEDULER stands behind all others, and is every task's own.
func mayTake(c api.Config, task, resource int) bool {
	if resource == len(c.Resources) {
		return c.OS.Schedule
	}
	return slices.Contains(c.Tasks[task].Resources, resource) && c.Resources[resource].Kind != api.ResInternal
}
