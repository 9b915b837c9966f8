package explore_test

import (
	"reflect"
	"slices"

	"tappet/api"
	"tappet/kernel"
	"tappet/table"
)

// A second reading of the chapter, word by word: each script is run from the beginning, on a kernel of its own.

// allScripts are those of a search, in their order.
func allScripts(s api.Search) [][]api.Step {
	all := [][]api.Step{{}}
	from := 0
	for range s.Length {
		behind := len(all)
		for _, script := range all[from:behind] {
			for _, step := range s.Steps {
				all = append(all, append(slices.Clone(script), step))
			}
		}
		from = behind
	}
	return all
}

// seen is what there is behind a script.
type seen struct {
	script []api.Step
	look   api.Look // a plain one
	marks  api.Marks
	answer api.Answer
}

func ran(x api.Tables, mode int, script []api.Step) seen {
	k, _ := kernel.New(x)
	k.Step(start(mode))
	a := api.Answer{Idle: true}
	for _, s := range script {
		a = k.Step(s)
	}
	return seen{script, plain(k.Look()), k.Marks(), a}
}

// allOf is what there is behind each script of a search, in their order.
func allOf(x api.Tables, s api.Search) []seen {
	var all []seen
	for _, script := range allScripts(s) {
		all = append(all, ran(x, s.Mode, script))
	}
	return all
}

func errorOf(x api.Tables, s api.Search) api.Errno {
	if table.Check(x) != api.OK || s.Mode < 0 || s.Mode > x.Modes-1 || len(s.Steps) < 1 || len(s.Steps) > 16 || s.Length < 0 || s.Length > 12 || s.Workers < 1 || s.Workers > 16 {
		return api.ErrSearch
	}
	var all, those float64 = 0, 1
	for range s.Length + 1 {
		all += those
		those *= float64(len(s.Steps))
	}
	if all > 65536 {
		return api.ErrWide
	}
	return api.OK
}

func surveyOf(x api.Tables, s api.Search, all []seen) api.Survey {
	v := api.Survey{Scripts: make([]int, s.Length+1), Looks: make([]int, s.Length+1), Marks: api.Marks{Rings: make([]int, len(x.Rings))}}
	unlike := make([][]api.Look, s.Length+1)
	for _, r := range all {
		n := len(r.script)
		v.Scripts[n]++
		if !slices.ContainsFunc(unlike[n], func(l api.Look) bool { return reflect.DeepEqual(l, r.look) }) {
			unlike[n] = append(unlike[n], r.look)
			v.Looks[n]++
		}
		m := &v.Marks
		for i, high := range r.marks.Rings {
			m.Rings[i] = max(m.Rings[i], high)
		}
		m.Preempted, m.Frames = max(m.Preempted, r.marks.Preempted), max(m.Frames, r.marks.Frames)
		m.Errors, m.Callbacks = max(m.Errors, r.marks.Errors), max(m.Callbacks, r.marks.Callbacks)
		if n == 0 {
			continue
		}
		if r.answer.Idle {
			v.Idle++
			continue
		}
		at := slices.IndexFunc(v.Status, func(c api.StatusCount) bool { return c.Status == r.answer.Status })
		if at < 0 {
			at = len(v.Status)
			v.Status = append(v.Status, api.StatusCount{Status: r.answer.Status})
		}
		v.Status[at].Times++
	}
	slices.SortFunc(v.Status, func(a, b api.StatusCount) int { return int(a.Status - b.Status) })
	return v
}

func foundOf(all []seen, g api.Goal) ([]api.Step, bool) {
	for _, r := range all {
		if metBy(g, r.look, r.answer) {
			return r.script, true
		}
	}
	return nil, false
}

// metBy reads P28.4 from its lists' sides.
func metBy(g api.Goal, l api.Look, a api.Answer) bool {
	met := false
	for place, ring := range l.Rings {
		met = met || g.Kind == 1 && place == g.A && len(ring) >= g.B
	}
	for place, f := range l.Frames {
		met = met || g.Kind == 2 && place+1 == len(l.Frames) && f.Kind == api.FrameKind(g.A) && f.ID == g.B
	}
	met = met || g.Kind == 3 && !a.Idle && a.Status == api.Status(g.A)
	met = met || g.Kind == 4 && len(l.Frames) >= g.A
	met = met || g.Kind == 5 && len(l.Preempted) >= g.A
	for id, task := range l.Tasks {
		met = met || g.Kind == 6 && id == g.A && task.State == api.TaskState(g.B)
	}
	return met
}
