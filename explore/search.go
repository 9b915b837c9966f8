package explore

import (
	"tappet/api"
	"tappet/kernel"
)

// search is one that may be, and has begun.
type search struct {
	steps   []api.Step
	workers int
	empty   run   // of the script without steps
	firsts  []run // of the scripts of one step, by which longer ones are shared out
}

// newSearch begins a search, if it may be.
func newSearch(t api.Tables, s api.Search) (*search, api.Errno) {
	k, e := begin(t, s)
	if e != api.OK {
		return nil, e
	}
	x := &search{steps: s.Steps, workers: s.Workers, empty: newRun(k, s.Mode)}
	for place := range x.steps {
		x.firsts = append(x.firsts, x.empty.then(x.steps, place))
	}
	return x, api.OK
}

// begin makes the kernel of a search, if it may be (P28.1).
func begin(t api.Tables, s api.Search) (*kernel.Kernel, api.Errno) {
	if !mayBe(t, s) {
		return nil, api.ErrSearch
	}
	k, e := kernel.New(t) // refuses just the tables that layer 9 refuses
	if e != api.OK {
		return nil, api.ErrSearch
	}
	if scripts(len(s.Steps), s.Length) > api.MaxScripts {
		return nil, api.ErrWide
	}
	return k, api.OK
}

func mayBe(t api.Tables, s api.Search) bool {
	return s.Mode >= 0 && s.Mode < t.Modes &&
		len(s.Steps) >= 1 && len(s.Steps) <= api.MaxAlphabet &&
		s.Length >= 0 && s.Length <= api.MaxLength &&
		s.Workers >= 1 && s.Workers <= api.MaxWorkers
}

// scripts tells how many there are, of all lengths together; as many steps as may be leave it below 2 to the power of 53.
func scripts(alphabet, length int) uint64 {
	all, long := uint64(1), uint64(1)
	for range length {
		long *= uint64(alphabet)
		all += long
	}
	return all
}

// script is what was run, as steps in memory of their own.
func (x *search) script(r *run) []api.Step {
	l := make([]api.Step, 0, len(r.places))
	for _, place := range r.places {
		l = append(l, x.steps[place])
	}
	return l
}
