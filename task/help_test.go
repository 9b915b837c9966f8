package task_test

import (
	"slices"
	"testing"

	"tappet/api"
	"tappet/task"
)

var fourStates = []api.TaskState{api.Running, api.Waiting, api.Ready, api.Suspended}

// book reads the chapter a second time: it keeps no state of a task, but what was asked and what ended, who runs and who waits, and reckons the states from that.
type book struct {
	rows    []api.Activity
	asked   []int
	ended   []int
	runs    []int // nobody, or the one that runs
	waiting []int
}

func newBook(rows []api.Activity) *book {
	return &book{rows: slices.Clone(rows), asked: make([]int, len(rows)), ended: make([]int, len(rows))}
}

func (b *book) has(n int) bool { return n >= 0 && n < len(b.rows) }

func (b *book) active(n int) int {
	if !b.has(n) {
		return 0
	}
	return b.asked[n] - b.ended[n]
}

func (b *book) state(n int) (api.TaskState, api.Status) {
	switch {
	case !b.has(n):
		return 0, api.EID
	case slices.Contains(b.runs, n):
		return api.Running, api.EOK
	case slices.Contains(b.waiting, n):
		return api.Waiting, api.EOK
	case b.active(n) == 0:
		return api.Suspended, api.EOK
	}
	return api.Ready, api.EOK
}

func (b *book) running() int {
	if len(b.runs) == 0 {
		return -1
	}
	return b.runs[0]
}

func (b *book) activate(n int) (bool, api.Status) {
	if !b.has(n) {
		return false, api.EID
	}
	if b.active(n) == b.rows[n].Limit {
		return false, api.ELimit
	}
	b.asked[n]++
	return b.active(n) == 1, api.EOK
}

func (b *book) start(n int) api.Errno {
	if !b.has(n) {
		return api.ErrArg
	}
	if len(b.runs) > 0 {
		return api.ErrOne
	}
	if s, _ := b.state(n); s != api.Ready {
		return api.ErrState
	}
	b.runs = []int{n}
	return api.OK
}

// stop: who ran runs no more, and nothing else is different.
func (b *book) stop() (int, api.Errno) {
	n := b.running()
	if n < 0 {
		return -1, api.ErrState
	}
	b.runs = nil
	return n, api.OK
}

func (b *book) wait() (int, api.Errno) {
	if n := b.running(); n >= 0 && !b.rows[n].Extended {
		return -1, api.ErrState
	}
	n, e := b.stop()
	if e == api.OK {
		b.waiting = append(b.waiting, n)
	}
	return n, e
}

func (b *book) release(n int) api.Errno {
	if !b.has(n) {
		return api.ErrArg
	}
	if i := slices.Index(b.waiting, n); i >= 0 {
		b.waiting = slices.Delete(b.waiting, i, i+1)
		return api.OK
	}
	return api.ErrState
}

func (b *book) end() (int, api.TaskState, api.Errno) {
	n, e := b.stop()
	if e != api.OK {
		return n, 0, e
	}
	b.ended[n]++
	s, _ := b.state(n)
	return n, s, api.OK
}

func (b *book) copy() *book {
	return &book{slices.Clone(b.rows), slices.Clone(b.asked), slices.Clone(b.ended), slices.Clone(b.runs), slices.Clone(b.waiting)}
}

// basic is a row of a basic task.
func basic(limit int) api.Activity { return api.Activity{Limit: limit} }

// extended is a row of an extended task.
func extended() api.Activity { return api.Activity{Limit: 1, Extended: true} }

func made(t *testing.T, rows ...api.Activity) *task.Table {
	t.Helper()
	x, e := task.New(rows)
	if e != api.OK || x == nil {
		t.Fatalf("New(%v): %v, %d", rows, x, e)
	}
	return x
}

func activates(t *testing.T, x *task.Table, n int, suspended bool) {
	t.Helper()
	if was, s := x.Activate(n); was != suspended || s != api.EOK {
		t.Fatalf("Activate(%d): %v %d, not %v", n, was, s, suspended)
	}
}

func activatesNot(t *testing.T, x *task.Table, n int, want api.Status) {
	t.Helper()
	if was, s := x.Activate(n); was || s != want {
		t.Fatalf("Activate(%d): %v %d, not %d", n, was, s, want)
	}
}

func starts(t *testing.T, x *task.Table, n int, want api.Errno) {
	t.Helper()
	if e := x.Start(n); e != want {
		t.Fatalf("Start(%d): %d, not %d", n, e, want)
	}
}

func releases(t *testing.T, x *task.Table, n int, want api.Errno) {
	t.Helper()
	if e := x.Release(n); e != want {
		t.Fatalf("Release(%d): %d, not %d", n, e, want)
	}
}

// tells: a call that moves the running task, as a method value, answers this.
func tells(t *testing.T, call func() (int, api.Errno), n int, want api.Errno) {
	t.Helper()
	if m, e := call(); m != n || e != want {
		t.Fatalf("told: %d %d, not %d %d", m, e, n, want)
	}
}

func ends(t *testing.T, x *task.Table, n int, state api.TaskState, want api.Errno) {
	t.Helper()
	if m, s, e := x.End(); m != n || s != state || e != want {
		t.Fatalf("End: %d %d %d, not %d %d %d", m, s, e, n, state, want)
	}
}

func is(t *testing.T, x *task.Table, n int, state api.TaskState, active int) {
	t.Helper()
	if s, e := x.State(n); s != state || e != api.EOK {
		t.Fatalf("State(%d): %d %d, not %d", n, s, e, state)
	}
	if a := x.Active(n); a != active {
		t.Fatalf("Active(%d): %d, not %d", n, a, active)
	}
}

// lead brings a suspended task into a state by way of calls, with one activation, while no task runs.
func lead(t *testing.T, x *task.Table, n int, state api.TaskState) {
	t.Helper()
	if state == api.Suspended {
		return
	}
	activates(t, x, n, true)
	if state == api.Ready {
		return
	}
	starts(t, x, n, api.OK)
	if state == api.Waiting {
		tells(t, x.Wait, n, api.OK)
	}
}

// stands: of every task, of those beside them, and of every state the table tells what the book does.
func stands(t *testing.T, x *task.Table, b *book) {
	t.Helper()
	lists := map[api.TaskState][]int{}
	for n := -1; n <= len(b.rows); n++ {
		want, status := b.state(n)
		if s, e := x.State(n); s != want || e != status {
			t.Fatalf("State(%d): %d %d, not %d %d", n, s, e, want, status)
		}
		if a := x.Active(n); a != b.active(n) {
			t.Fatalf("Active(%d): %d, not %d", n, a, b.active(n))
		}
		if status == api.EOK {
			lists[want] = append(lists[want], n)
			keepsTheRules(t, x, n, b.rows[n])
		}
	}
	for s := api.TaskState(-2); s <= 6; s++ {
		if l := x.Those(s); !slices.Equal(l, lists[s]) {
			t.Fatalf("Those(%d): %v, not %v", s, l, lists[s])
		}
	}
	if n := x.Running(); n != b.running() {
		t.Fatalf("Running: %d, not %d", n, b.running())
	}
	if l := x.Those(api.Running); len(l) > 1 { // P18.7
		t.Fatal("several run:", l)
	}
}

// keepsTheRules: P18.7, of one task, from the table's own words alone.
func keepsTheRules(t *testing.T, x *task.Table, n int, row api.Activity) {
	t.Helper()
	s, _ := x.State(n)
	a := x.Active(n)
	if (a > 0) != (s != api.Suspended) || a < 0 || a > row.Limit {
		t.Fatalf("task %d in the state %d has %d activations of %d", n, s, a, row.Limit)
	}
	if s == api.Waiting && !row.Extended {
		t.Fatalf("the basic task %d waits", n)
	}
}

// chance gives numbers that are the same in each run.
type chance uint64

func (c *chance) below(n int) int {
	*c = *c*6364136223846793005 + 1442695040888963407
	return int(uint64(*c>>33) % uint64(n))
}
