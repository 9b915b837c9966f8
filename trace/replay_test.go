package trace_test

import (
	"testing"

	"tappet/api"
	"tappet/trace"
)

// replays: Replay answers this number.
func replays(t *testing.T, what string, x api.Tables, r api.Trace, want int) {
	t.Helper()
	if n, e := trace.Replay(x, r); n != want || e != api.OK {
		t.Errorf("%s: Replay: %d, %d, not %d", what, n, e, want)
	}
}

// P25.3: the errors in their order: kernel.New's ahead of another sum, that ahead of another answer; beside them there is nothing.
func TestReplaysErrors(t *testing.T) {
	x := tablesOf(t, ordinary())
	r := recorded(t, x, busy())
	for n, wrong := range wrongTables(t) {
		for _, sum := range []uint16{r.Sum, 0, 0xffff} {
			for _, entries := range [][]api.Traced{nil, r.Entries} {
				if at, e := trace.Replay(wrong, api.Trace{Sum: sum, Entries: entries}); at != 0 || e != api.ErrKernel {
					t.Errorf("tables %d: %d, %d", n, at, e)
				}
			}
		}
	}
	for bits := 1; bits < 1<<16; bits = bits<<1 + bits&1 {
		for at := range 3 {
			s := plain(r)
			s.Sum ^= uint16(bits)
			s.Entries[at].Answer.Status += api.Status(at)
			if n, e := trace.Replay(x, s); n != 0 || e != api.ErrImageOf {
				t.Errorf("a sum turned by %x: %d, %d", bits, n, e)
			}
		}
	}
	if n, e := trace.Replay(x, api.Trace{}); n != 0 || e != api.ErrImageOf {
		t.Errorf("a zero trace: %d, %d", n, e)
	}
	replays(t, "as it is", x, r, -1)
	replays(t, "no entries", x, api.Trace{Sum: r.Sum}, -1)
}

// P25.3: traces of other tables: their sums are another, or, if they are not, the answers are looked at.
func TestOtherTables(t *testing.T) {
	c := chance(8)
	met := map[api.Errno]int{}
	config := ordinary()
	x := tablesOf(t, config)
	r := recorded(t, x, stepsOf(c.run(t, config, 60)))
	for range 1500 {
		y := tablesOf(t, c.config())
		n, e := trace.Replay(y, r)
		met[e]++
		switch same := sumOf(imageOf(t, y)) == r.Sum; {
		case !same && (n != 0 || e != api.ErrImageOf), same && (n != firstOther(t, y, r) || e != api.OK):
			t.Errorf("the same sum: %v: %d, %d", same, n, e)
		}
	}
	if met[api.OK] == 0 || met[api.ErrImageOf] == 0 {
		t.Errorf("met: %v", met)
	}
}

// firstOther is the first entry whose answer is not a kernel's, or -1.
func firstOther(t *testing.T, x api.Tables, r api.Trace) int {
	t.Helper()
	for i, y := range recordOf(t, x, stepsOf(r.Entries)).Entries {
		if !alike(y, r.Entries[i]) {
			return i
		}
	}
	return -1
}

// turns are all that an answer can be another one by.
func turns() map[string]func(a *api.Answer) {
	return map[string]func(a *api.Answer){
		"Status":      func(a *api.Answer) { a.Status++ },
		"Status -":    func(a *api.Answer) { a.Status -= 256 },
		"Idle":        func(a *api.Answer) { a.Idle = !a.Idle },
		"V 0":         func(a *api.Answer) { a.V[0]++ },
		"V 1":         func(a *api.Answer) { a.V[1] ^= 1 << 31 },
		"V 2":         func(a *api.Answer) { a.V[2]-- },
		"Run's kind":  func(a *api.Answer) { a.Run.Kind++ },
		"Run's ID":    func(a *api.Answer) { a.Run.ID++ },
		"its status":  func(a *api.Answer) { a.Run.Status++ },
		"its service": func(a *api.Answer) { a.Run.Service++ },
		"its param":   func(a *api.Answer) { a.Run.Param++ },
		"begun more":  func(a *api.Answer) { a.Begun = append(a.Begun, none) },
		"begun less": func(a *api.Answer) {
			if len(a.Begun) == 0 {
				a.Begun = []api.Frame{task(0)}
			} else {
				a.Begun = a.Begun[1:]
			}
		},
		"begun another": func(a *api.Answer) {
			if len(a.Begun) == 0 {
				a.Begun = []api.Frame{task(1)}
			}
			a.Begun[len(a.Begun)-1].Param++
		},
		"expired more": func(a *api.Answer) { a.Expired = append(a.Expired, 0) },
		"expired less": func(a *api.Answer) {
			if len(a.Expired) == 0 {
				a.Expired = []int{1}
			} else {
				a.Expired = a.Expired[1:]
			}
		},
		"expired the other way round": func(a *api.Answer) {
			if n := len(a.Expired); n > 1 {
				a.Expired[0], a.Expired[n-1] = a.Expired[n-1], a.Expired[0]
			} else {
				a.Expired = append(a.Expired, 3)
			}
		},
	}
}

// P25.3: each entry's answer turned, in each way; and two, of which the first is told.
func TestTurnedAnswers(t *testing.T) {
	x := tablesOf(t, ordinary())
	r := recorded(t, x, busy())
	for what, turn := range turns() {
		for at := range r.Entries {
			s := plain(r)
			turn(&s.Entries[at].Answer)
			replays(t, what, x, s, at)
			for more := at + 1; more < len(s.Entries); more += 3 {
				turn(&s.Entries[more].Answer)
			}
			replays(t, what+", and more", x, s, at)
		}
	}
	replays(t, "as it was", x, r, -1)
}

// P25.3: another step: the first entry whose answer is another is told, be it a later one; none, if all answers are the same.
func TestTurnedSteps(t *testing.T) {
	x := example(t)
	r := recorded(t, x, []api.Step{start(0), call(api.SvActivateTask, 1), call(api.SvGetTaskID), call(api.SvTerminateTask), call(api.SvGetTaskID)})
	s := plain(r)
	s.Entries[0].Step.A = 99 // what a start has no use for
	replays(t, "nothing", x, s, -1)
	s.Entries[1].Step = call(api.SvSetEvent, 1, 1)
	replays(t, "at once", x, s, 1)
	s = plain(r)
	s.Entries[3].Step = call(api.SvChainTask, 0)
	replays(t, "a task that is there", x, s, 3)
	s = recorded(t, x, []api.Step{start(0), call(api.SvSuspendOSInterrupts), call(api.SvResumeOSInterrupts), call(api.SvActivateTask, 1)})
	s.Entries[2].Step = call(api.SvResumeAllInterrupts)
	replays(t, "behind the next one", x, s, 3)
}

// P25.3: steps left out, doubled, or shuffled, by chance, against a kernel's answers.
func TestReplayByChance(t *testing.T) {
	c := chance(5)
	met := map[bool]int{}
	for range 600 {
		config := c.config()
		x := tablesOf(t, config)
		r := recorded(t, x, stepsOf(c.run(t, config, 60)))
		for range 1 + c.below(2) {
			if n := len(r.Entries); n > 0 {
				i := c.below(n)
				r.Entries[i].Step = r.Entries[c.below(n)].Step
			}
		}
		want := firstOther(t, x, r)
		replays(t, "by chance", x, r, want)
		met[want < 0]++
	}
	if met[true] < 50 || met[false] < 50 {
		t.Errorf("met: %v", met)
	}
}

// P25.3: a trace that can't be written, and one of more entries than may be, are replayed; nil and empty lists are the same.
func TestReplayOfTheRest(t *testing.T) {
	x := example(t)
	r := recordOf(t, x, append(exampleSteps(), start(-1), irq(70000), api.Step{Kind: -7}, call(-1), ret(), call(1<<40)))
	refusesTrace(t, "no numbers", r)
	replays(t, "no numbers", x, r, -1)
	r.Entries[5].Step.ID = 0
	replays(t, "another, that does the same", x, r, -1)

	r = recordOf(t, x, make([]api.Step, 65540))
	replays(t, "too many", x, r, -1)
	r.Entries[65539].Answer.Idle = false
	replays(t, "too many, the last one turned", x, r, 65539)

	r = recorded(t, x, exampleSteps())
	for i := range r.Entries {
		a := &r.Entries[i].Answer
		if len(a.Begun) == 0 {
			a.Begun = []api.Frame{}
		}
		if len(a.Expired) == 0 {
			a.Expired = []int{}
		}
	}
	replays(t, "empty lists", x, r, -1)
	replays(t, "nil lists", x, plain(r), -1)
}
