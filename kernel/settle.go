package kernel

import "tappet/api"

// outcome is what came of a rule.
type outcome int

const (
	passed outcome = iota // it does not apply
	done                  // something was done
	ended                 // the settling ends
)

// rule is one of the rules of settling (M14).
type rule struct {
	try func(k *Kernel) outcome
}

// ends is a rule that ends the settling, if something is so.
func ends(isSo func(k *Kernel) bool) rule {
	return rule{try: func(k *Kernel) outcome {
		if isSo(k) {
			return ended
		}
		return passed
	}}
}

// does is a rule that does something, if it can.
func does(did func(k *Kernel) bool) rule {
	return rule{try: func(k *Kernel) outcome {
		if did(k) {
			return done
		}
		return passed
	}}
}

// rules are M14's, in its order.
func rules() []rule {
	return []rule{
		ends(func(k *Kernel) bool { return k.top().frame.Kind == api.FError }),
		does((*Kernel).beginError),
		ends(func(k *Kernel) bool { return k.top().frame.Kind == api.FCallback }),
		does((*Kernel).beginCallback),
		ends((*Kernel).isRoutineOrNotUp),
		does((*Kernel).carryLeaving),
		does((*Kernel).takeIsr),
		ends(func(k *Kernel) bool { return k.top().frame.Kind == api.FIsr }),
		does((*Kernel).runBest),
		does((*Kernel).preempt),
	}
}

// settle does the first rule that applies, again and again.
func (k *Kernel) settle() {
	came := done
	for came == done {
		came = k.tryRules()
	}
}

// tryRules tries one behind the other, and tells what came of the first that applies.
func (k *Kernel) tryRules() outcome {
	for _, r := range k.rules {
		if o := r.try(k); o != passed {
			return o
		}
	}
	return ended
}

func (k *Kernel) beginError() bool {
	f, waits := k.errors.take()
	if waits {
		k.beginHook(api.UseError, f)
	}
	return waits
}

func (k *Kernel) beginCallback() bool {
	number, waits := k.callbacks.take()
	if waits {
		k.begin(api.Frame{Kind: api.FCallback, ID: number})
	}
	return waits
}

func (k *Kernel) isRoutineOrNotUp() bool {
	_, holds := holderOf(k.top().frame)
	return k.phase != api.Up || k.isAnyOnTop() && !holds
}

// carryLeaving is M7. Nobody is above the task: routines have ended, and no ISR is taken while a leaving is there.
func (k *Kernel) carryLeaving() bool {
	if k.core.Leaving() == api.LeaveNone {
		return false
	}
	k.core.Carry()
	k.frames.Pop()
	return true
}

func (k *Kernel) takeIsr() bool {
	isr, some := k.board.Next(k.core.Priority(k.caller()), k.core.Gate())
	if !some {
		return false
	}
	k.board.Serve(isr)
	k.push(api.Frame{Kind: api.FIsr, ID: isr})
	return true
}

// runBest is M8.
func (k *Kernel) runBest() bool {
	task, e := k.core.Run()
	if e != api.OK {
		return false
	}
	k.push(api.Frame{Kind: api.FTask, ID: task})
	k.beginHook(api.UsePre, api.Frame{Kind: api.FPre, ID: task})
	return true
}

func (k *Kernel) preempt() bool {
	if !k.isOpen() || !k.core.Due() {
		return false
	}
	k.core.Preempt()
	k.beginToLeave()
	return true
}
