package explore

import (
	"iter"
	"slices"

	"tappet/api"
	"tappet/kernel"
)

// run is a script that was run.
type run struct {
	places []int // of its steps in the alphabet
	kernel *kernel.Kernel
	answer api.Answer // its last step's
}

// newRun runs the script without steps, on a kernel that is off; the start's own answer counts nowhere.
func newRun(k *kernel.Kernel, mode int) run {
	k.Step(api.Step{Kind: api.SStart, ID: mode})
	return run{kernel: k, answer: api.Answer{Idle: true}}
}

// then runs a script that is one step longer, on a kernel of its own.
func (r run) then(alphabet []api.Step, place int) run {
	k := r.kernel.Copy()
	return run{places: append(slices.Clone(r.places), place), kernel: k, answer: k.Step(alphabet[place])}
}

// longer goes through all runs that begin with one of these and are so many steps longer; in the order of scripts, if these are.
func longer(these iter.Seq[run], alphabet []api.Step, more int) iter.Seq[run] {
	return func(yield func(run) bool) {
		for r := range these {
			if !r.grow(alphabet, more, yield) {
				return
			}
		}
	}
}

// grow tells whether to go on.
func (r run) grow(alphabet []api.Step, more int, yield func(run) bool) bool {
	if more == 0 {
		return yield(r)
	}
	for place := range alphabet {
		if !r.then(alphabet, place).grow(alphabet, more-1, yield) {
			return false
		}
	}
	return true
}

// firstThatMeets is nil, if none of them meets the goal.
func firstThatMeets(g api.Goal, runs iter.Seq[run]) *run {
	for r := range runs {
		if Meets(g, r.kernel.Look(), r.answer) {
			return &r
		}
	}
	return nil
}

// earlier is the earlier one of two runs of one length, in the order of scripts; nil is none.
func earlier(a, b *run) *run {
	if a == nil || b != nil && slices.Compare(b.places, a.places) < 0 {
		return b
	}
	return a
}
