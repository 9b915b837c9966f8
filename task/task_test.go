package task_test

import (
	"math"
	"slices"
	"testing"

	"tappet/api"
	"tappet/task"
)

// beyond are numbers of no task, where there are at most three.
var beyond = []int{-1, -2, -256, 3, 4, 255, 256, 257, 1 << 16, 1 << 32, 1<<32 + 1, math.MaxInt, math.MinInt}

// P18.1: as many tasks as may be, and no more; at first all are suspended.
func TestNewCounts(t *testing.T) {
	for n := range api.MaxTasks + 1 {
		rows := make([]api.Activity, n)
		for i := range rows {
			rows[i] = []api.Activity{basic(1), extended(), basic(api.MaxActivate)}[i%3]
		}
		stands(t, made(t, rows...), newBook(rows))
	}
	for _, n := range []int{api.MaxTasks + 1, api.MaxTasks + 2, 2 * api.MaxTasks, 1 << 17} {
		rows := slices.Repeat([]api.Activity{basic(1)}, n)
		if x, e := task.New(rows); x != nil || e != api.ErrTask {
			t.Errorf("New of %d: %v %d", n, x, e)
		}
	}
}

// P18.1: which limits basic and extended tasks may have.
func TestNewLimits(t *testing.T) {
	limits := []int{math.MinInt, -256, -1, 1 << 16, 1<<32 + 1, math.MaxInt}
	for n := range 600 {
		limits = append(limits, n)
	}
	for _, n := range limits {
		refusedOrNot(t, api.Activity{Limit: n}, n >= 1 && n <= 255)
		refusedOrNot(t, api.Activity{Limit: n, Extended: true}, n == 1)
	}
}

// refusedOrNot: rows with this one among them, in whichever place, are taken just if it may be.
func refusedOrNot(t *testing.T, row api.Activity, may bool) {
	t.Helper()
	for place := range 3 {
		rows := []api.Activity{basic(2), extended(), basic(255)}
		rows[place] = row
		x, e := task.New(rows)
		if may && (x == nil || e != api.OK) || !may && (x != nil || e != api.ErrTask) {
			t.Errorf("New(%v): %v %d", rows, x, e)
		}
	}
}

// P18.1: a table of no task is one nonetheless.
func TestNoTasks(t *testing.T) {
	for _, rows := range [][]api.Activity{nil, {}} {
		x := made(t, rows...)
		for _, y := range []*task.Table{x, x.Copy()} {
			if y == nil {
				t.Fatal("no copy")
			}
			y.Reset()
			stands(t, y, newBook(nil))
			activatesNot(t, y, 0, api.EID)
			starts(t, y, 0, api.ErrArg)
			releases(t, y, 0, api.ErrArg)
			tells(t, y.Preempt, -1, api.ErrState)
			tells(t, y.Wait, -1, api.ErrState)
			tells(t, y.Again, -1, api.ErrState)
			ends(t, y, -1, 0, api.ErrState)
		}
	}
}

// R1: tables that New did not make.
func TestNotMade(t *testing.T) {
	for _, x := range []*task.Table{nil, {}, new(task.Table)} {
		for range 2 {
			for _, n := range append([]int{0, 1, 2}, beyond...) {
				activatesNot(t, x, n, api.EID)
				starts(t, x, n, api.ErrNil)
				releases(t, x, n, api.ErrNil)
				if s, e := x.State(n); s != 0 || e != api.EID {
					t.Error("State:", s, e)
				}
				if a := x.Active(n); a != 0 {
					t.Error("Active:", a)
				}
			}
			tells(t, x.Preempt, -1, api.ErrNil)
			tells(t, x.Wait, -1, api.ErrNil)
			tells(t, x.Again, -1, api.ErrNil)
			ends(t, x, -1, 0, api.ErrNil)
			for s := api.TaskState(-1); s < 6; s++ {
				if l := x.Those(s); len(l) != 0 {
					t.Error("Those:", l)
				}
			}
			if n := x.Running(); n != -1 {
				t.Error("Running:", n)
			}
			if x.Copy() != nil {
				t.Error("a copy of nothing")
			}
			x.Reset()
		}
	}
}

// P18.2, P18.3, P18.5: tasks that are not there, whoever runs; nothing changes.
func TestNoSuchTask(t *testing.T) {
	for _, state := range fourStates {
		rows := []api.Activity{extended(), basic(2), basic(255)}
		x, b := made(t, rows...), newBook(rows)
		lead(t, x, 0, state)
		activates(t, x, 2, true)
		for _, n := range beyond {
			activatesNot(t, x, n, api.EID)
			starts(t, x, n, api.ErrArg)
			releases(t, x, n, api.ErrArg)
			if s, e := x.State(n); s != 0 || e != api.EID {
				t.Errorf("State(%d): %d %d", n, s, e)
			}
			if a := x.Active(n); a != 0 {
				t.Errorf("Active(%d): %d", n, a)
			}
		}
		if state != api.Suspended {
			b.asked[0] = 1
		}
		b.asked[2] = 1
		if state == api.Running {
			b.runs = []int{0}
		}
		if state == api.Waiting {
			b.waiting = []int{0}
		}
		stands(t, x, b)
	}
	full := made(t, slices.Repeat([]api.Activity{basic(1)}, api.MaxTasks)...)
	activates(t, full, api.MaxTasks-1, true)
	activatesNot(t, full, api.MaxTasks, api.EID)
	starts(t, full, api.MaxTasks, api.ErrArg)
	starts(t, full, api.MaxTasks-1, api.OK)
	if n := full.Running(); n != api.MaxTasks-1 {
		t.Error("Running:", n)
	}
}

// P18.2: every limit is reached, and not passed; the first activation alone finds a suspended task.
func TestEveryLimit(t *testing.T) {
	for limit := 1; limit <= api.MaxActivate; limit++ {
		x := made(t, basic(limit), basic(limit))
		for n := range limit {
			activates(t, x, 0, n == 0)
			is(t, x, 0, api.Ready, n+1)
		}
		for range 3 {
			activatesNot(t, x, 0, api.ELimit)
			is(t, x, 0, api.Ready, limit)
		}
		is(t, x, 1, api.Suspended, 0)
		for left := limit - 1; left > 0; left-- {
			starts(t, x, 0, api.OK)
			ends(t, x, 0, api.Ready, api.OK)
			is(t, x, 0, api.Ready, left)
		}
		starts(t, x, 0, api.OK)
		ends(t, x, 0, api.Suspended, api.OK)
		is(t, x, 0, api.Suspended, 0)
		activates(t, x, 0, true)
	}
}

// P18.2: a running task is activated, too: it runs on, and is ready when it has ended.
func TestActivateRunning(t *testing.T) {
	x := made(t, basic(2))
	lead(t, x, 0, api.Running)
	activates(t, x, 0, false)
	is(t, x, 0, api.Running, 2)
	activatesNot(t, x, 0, api.ELimit)
	is(t, x, 0, api.Running, 2)
	ends(t, x, 0, api.Ready, api.OK)
	activates(t, x, 0, false)
	is(t, x, 0, api.Ready, 2)
}

// P18.2: an extended task has one activation at most, in all of its states.
func TestActivateExtended(t *testing.T) {
	for _, state := range []api.TaskState{api.Running, api.Waiting, api.Ready} {
		x := made(t, extended())
		lead(t, x, 0, state)
		activatesNot(t, x, 0, api.ELimit)
		is(t, x, 0, state, 1)
	}
}

// P18.3: Start of a task in each state, while nobody runs and while somebody does.
func TestStart(t *testing.T) {
	for _, state := range []api.TaskState{api.Waiting, api.Ready, api.Suspended} {
		x := made(t, extended(), basic(1))
		lead(t, x, 0, state)
		want, behind := api.ErrState, state
		if state == api.Ready {
			want, behind = api.OK, api.Running
		}
		starts(t, x, 0, want)
		if s, _ := x.State(0); s != behind {
			t.Errorf("state %d behind Start: %d", state, s)
		}
		y := made(t, extended(), basic(1))
		lead(t, y, 0, state)
		lead(t, y, 1, api.Running)
		starts(t, y, 0, api.ErrOne)
		if s, _ := y.State(0); s != state || y.Running() != 1 {
			t.Errorf("state %d behind a refused Start: %d; runs %d", state, s, y.Running())
		}
	}
}

// P18.3: errors of Start in their order: no such task, somebody runs, this one is not ready.
func TestStartOrder(t *testing.T) {
	x := made(t, basic(2), basic(1))
	starts(t, x, 2, api.ErrArg)
	starts(t, x, 1, api.ErrState)
	lead(t, x, 0, api.Running)
	starts(t, x, 2, api.ErrArg)
	starts(t, x, 1, api.ErrOne)
	starts(t, x, 0, api.ErrOne)
	is(t, x, 0, api.Running, 1)
	is(t, x, 1, api.Suspended, 0)
}

// P18.3: a preempted task is ready, with all of its activations.
func TestPreempt(t *testing.T) {
	x := made(t, basic(3), extended())
	tells(t, x.Preempt, -1, api.ErrState)
	activates(t, x, 0, true)
	tells(t, x.Preempt, -1, api.ErrState)
	activates(t, x, 0, false)
	starts(t, x, 0, api.OK)
	tells(t, x.Preempt, 0, api.OK)
	is(t, x, 0, api.Ready, 2)
	tells(t, x.Preempt, -1, api.ErrState)
	lead(t, x, 1, api.Running)
	tells(t, x.Preempt, 1, api.OK)
	is(t, x, 1, api.Ready, 1)
	starts(t, x, 0, api.OK)
	is(t, x, 0, api.Running, 2)
}

// P18.3: only extended tasks wait.
func TestWait(t *testing.T) {
	x := made(t, basic(1), extended(), extended())
	tells(t, x.Wait, -1, api.ErrState)
	lead(t, x, 0, api.Running)
	tells(t, x.Wait, -1, api.ErrState)
	is(t, x, 0, api.Running, 1)
	tells(t, x.Preempt, 0, api.OK)
	lead(t, x, 1, api.Waiting)
	lead(t, x, 2, api.Waiting)
	is(t, x, 1, api.Waiting, 1)
	tells(t, x.Wait, -1, api.ErrState)
	if l := x.Those(api.Waiting); !slices.Equal(l, []int{1, 2}) {
		t.Error("wait:", l)
	}
}

// P18.3: Release of a task in each state, whether somebody runs or not.
func TestRelease(t *testing.T) {
	for _, state := range fourStates {
		for _, other := range []api.TaskState{api.Suspended, api.Running} {
			if state == api.Running && other == api.Running {
				continue
			}
			x := made(t, extended(), basic(1))
			lead(t, x, 0, state)
			lead(t, x, 1, other)
			want, behind := api.ErrState, state
			if state == api.Waiting {
				want, behind = api.OK, api.Ready
			}
			releases(t, x, 0, want)
			if s, _ := x.State(0); s != behind {
				t.Errorf("state %d behind Release: %d", state, s)
			}
			releases(t, x, 0, api.ErrState)
			releases(t, x, 1, api.ErrState)
			if s, _ := x.State(1); s != other {
				t.Errorf("the other one behind Release: %d, not %d", s, other)
			}
		}
	}
}

// P18.4: End takes one activation, of the running task alone.
func TestEnd(t *testing.T) {
	x := made(t, basic(3), basic(3), extended())
	ends(t, x, -1, 0, api.ErrState)
	activates(t, x, 0, true)
	activates(t, x, 1, true)
	activates(t, x, 1, false)
	ends(t, x, -1, 0, api.ErrState)
	starts(t, x, 1, api.OK)
	ends(t, x, 1, api.Ready, api.OK)
	ends(t, x, -1, 0, api.ErrState)
	is(t, x, 0, api.Ready, 1)
	is(t, x, 1, api.Ready, 1)
	starts(t, x, 0, api.OK)
	ends(t, x, 0, api.Suspended, api.OK)
	is(t, x, 0, api.Suspended, 0)
	is(t, x, 1, api.Ready, 1)
	lead(t, x, 2, api.Running)
	ends(t, x, 2, api.Suspended, api.OK)
	is(t, x, 2, api.Suspended, 0)
}

// P18.4: Again takes none.
func TestAgain(t *testing.T) {
	x := made(t, basic(2), extended())
	tells(t, x.Again, -1, api.ErrState)
	activates(t, x, 0, true)
	tells(t, x.Again, -1, api.ErrState)
	for active := 1; active <= 2; active++ {
		starts(t, x, 0, api.OK)
		tells(t, x.Again, 0, api.OK)
		is(t, x, 0, api.Ready, active)
		x.Activate(0)
	}
	lead(t, x, 1, api.Running)
	tells(t, x.Again, 1, api.OK)
	is(t, x, 1, api.Ready, 1)
	tells(t, x.Again, -1, api.ErrState)
}

// P18.5: the lists rise, and each task stands in one of them; other states have none.
func TestThose(t *testing.T) {
	x := made(t, slices.Repeat([]api.Activity{extended()}, 9)...)
	for n, state := range []api.TaskState{2, 3, 1, 2, 1, 3, 2, 1, 0} {
		lead(t, x, n, state)
	}
	want := [][]int{{8}, {2, 4, 7}, {0, 3, 6}, {1, 5}}
	for s, l := range want {
		if got := x.Those(api.TaskState(s)); !slices.Equal(got, l) {
			t.Errorf("Those(%d): %v, not %v", s, got, l)
		}
	}
	for _, s := range []api.TaskState{-1, 4, 5, 256, 1 << 32, math.MaxInt, math.MinInt} {
		if got := x.Those(s); len(got) != 0 {
			t.Errorf("Those(%d): %v", s, got)
		}
	}
	if n := x.Running(); n != 8 {
		t.Error("Running:", n)
	}
}

// P18.6: behind Reset all is as at first, and the rows are as they were.
func TestReset(t *testing.T) {
	rows := []api.Activity{basic(2), extended(), extended(), basic(1)}
	x := made(t, rows...)
	for range 3 {
		activates(t, x, 0, true)
		activates(t, x, 0, false)
		lead(t, x, 1, api.Waiting)
		lead(t, x, 2, api.Running)
		activates(t, x, 3, true)
		x.Reset()
		stands(t, x, newBook(rows))
		x.Reset()
		stands(t, x, newBook(rows))
		tells(t, x.Preempt, -1, api.ErrState)
		releases(t, x, 1, api.ErrState)
	}
	lead(t, x, 0, api.Running)
	tells(t, x.Wait, -1, api.ErrState)
	activates(t, x, 0, false)
	activatesNot(t, x, 0, api.ELimit)
}
