package explore

import (
	"iter"
	"sync"
)

// gather shares out the scripts of a length, by their first steps, and joins what workers make of theirs to what there is.
func gather[P any](x *search, length int, all P, work func(iter.Seq[run]) P, join func(a, b P) P) P {
	roots, more := x.firsts, length-1
	if length == 0 {
		roots, more = []run{x.empty}, 0
	}
	parts := make([]P, min(x.workers, len(roots)))
	var workers sync.WaitGroup
	for n := range parts {
		workers.Go(func() {
			parts[n] = work(longer(each(roots[n:], len(parts)), x.steps, more))
		})
	}
	workers.Wait()
	for _, p := range parts {
		all = join(all, p)
	}
	return all
}

// each goes through the first of them, and those that stand so many places on, again and again: no two workers come upon the same one.
func each(runs []run, on int) iter.Seq[run] {
	return func(yield func(run) bool) {
		for n := 0; n < len(runs); n += on {
			if !yield(runs[n]) {
				return
			}
		}
	}
}
