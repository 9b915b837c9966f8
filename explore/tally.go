package explore

import (
	"iter"
	"maps"
	"slices"

	"tappet/api"
)

// tally is a part of a survey, or all of it: what was counted behind scripts.
type tally struct {
	scripts  int                 // of the length that is gone through
	looks    map[string]struct{} // that were seen behind them, by their texts
	marks    api.Marks
	idle     int
	statuses map[api.Status]int
}

func newTally(rings int) *tally {
	return &tally{
		looks:    map[string]struct{}{},
		marks:    api.Marks{Rings: make([]int, rings)},
		statuses: map[api.Status]int{},
	}
}

// count counts runs of one length.
func (t *tally) count(runs iter.Seq[run]) *tally {
	var b []byte
	for r := range runs {
		b = write(b[:0], r.kernel.Look())
		t.looks[string(b)] = struct{}{}
		t.scripts++
		t.raise(r.kernel.Marks())
		t.answered(r)
	}
	return t
}

// answered counts what the last step was answered; the script without steps has none.
func (t *tally) answered(r run) {
	switch {
	case len(r.places) == 0:
	case r.answer.Idle:
		t.idle++
	default:
		t.statuses[r.answer.Status]++
	}
}

// raise makes the marks as great as these, where they are less.
func (t *tally) raise(m api.Marks) {
	for place, n := range m.Rings {
		t.marks.Rings[place] = max(t.marks.Rings[place], n)
	}
	t.marks.Preempted = max(t.marks.Preempted, m.Preempted)
	t.marks.Frames = max(t.marks.Frames, m.Frames)
	t.marks.Errors = max(t.marks.Errors, m.Errors)
	t.marks.Callbacks = max(t.marks.Callbacks, m.Callbacks)
}

// join counts what another one counted, of scripts of the same length.
func (t *tally) join(other *tally) *tally {
	maps.Copy(t.looks, other.looks)
	clear(other.looks) // texts may be long: they are not to be kept twice
	t.scripts += other.scripts
	t.raise(other.marks)
	t.idle += other.idle
	for s, times := range other.statuses {
		t.statuses[s] += times
	}
	return t
}

// endLength forgets what is told of each length for itself.
func (t *tally) endLength() {
	clear(t.looks)
	t.scripts = 0
}

// list is of each status how often it was answered, by rising statuses.
func (t *tally) list() []api.StatusCount {
	var l []api.StatusCount
	for _, s := range slices.Sorted(maps.Keys(t.statuses)) {
		l = append(l, api.StatusCount{Status: s, Times: t.statuses[s]})
	}
	return l
}
