package trace

import "tappet/api"

// Stretches answers what was on top, row by row (P25.4).
func Stretches(r api.Trace) []api.Stretch {
	var l []api.Stretch
	for i, x := range r.Entries {
		run := x.Answer.Run
		if n := len(l); n > 0 && l[n-1].Run == run {
			l[n-1].To++
		} else {
			l = append(l, api.Stretch{Run: run, From: i, To: i + 1})
		}
	}
	return l
}

// Uses answers what tasks did (P25.4).
func Uses(r api.Trace, tasks int) []api.Use {
	uses := make([]api.Use, min(max(tasks, 0), api.MaxTasks))
	for _, s := range Stretches(r) {
		if id := s.Run.ID; id >= 0 && id < len(uses) && s.Run == taskFrame(id) {
			uses[id].Starts++
			uses[id].Steps += s.To - s.From
		}
	}
	return uses
}

func taskFrame(id int) api.Frame { return api.Frame{Kind: api.FTask, ID: id} }
