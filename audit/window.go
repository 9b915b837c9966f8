package audit

import (
	"slices"

	"tappet/api"
)

const none = -1 // no entry, no task

func (b *book) openWindow(id int) {
	b.open = append(b.open, len(b.windows))
	b.windows = append(b.windows, api.Window{Task: id, From: b.entry, To: none, Lower: none})
}

// runs: a task is on top; if it begins by that, it waited in the oldest window that is open of it.
func (b *book) runs(id int) {
	if b.tasks[id].inside {
		return
	}
	n := slices.IndexFunc(b.open, func(at int) bool { return b.windows[at].Task == id })
	if n < 0 {
		return
	}
	b.tasks[id].inside = true
	b.windows[b.open[n]].To = b.entry
	b.open = slices.Delete(b.open, n, n+1)
}

// count counts an entry for all windows that are open (P26.3).
func (b *book) count(s api.Step, idle bool) {
	isWork := !idle && (s.Kind == api.SCall || s.Kind == api.SReturn) && isTask(b.caller)
	for _, at := range b.open {
		w := &b.windows[at]
		switch {
		case !isWork:
			w.Other++
		case b.base(b.caller) >= b.config.Tasks[w.Task].Priority:
			w.Above++
		default:
			w.Blocked++
			b.block(w)
		}
	}
}

// block: the task that calls keeps another one waiting.
func (b *book) block(w *api.Window) {
	switch w.Lower {
	case none:
		w.Lower = b.caller.ID
	case b.caller.ID:
	default:
		b.found(api.Finding{Kind: api.FindBlocked, Entry: b.entry, ID: w.Task, Other: b.caller.ID})
	}
}
