package task_test

import (
	"testing"

	"tappet/api"
	"tappet/task"
)

// pair is a table and the book that it must be like.
type pair struct {
	x *task.Table
	b *book
}

func newPair(t *testing.T, rows ...api.Activity) *pair {
	t.Helper()
	return &pair{made(t, rows...), newBook(rows)}
}

func (p *pair) activate(t *testing.T, n int) {
	t.Helper()
	was, s := p.x.Activate(n)
	if w, want := p.b.activate(n); was != w || s != want {
		t.Fatalf("Activate(%d): %v %d, not %v %d", n, was, s, w, want)
	}
}

func (p *pair) start(t *testing.T, n int) {
	t.Helper()
	starts(t, p.x, n, p.b.start(n))
}

func (p *pair) release(t *testing.T, n int) {
	t.Helper()
	releases(t, p.x, n, p.b.release(n))
}

func (p *pair) preempt(t *testing.T) {
	t.Helper()
	n, e := p.b.stop()
	tells(t, p.x.Preempt, n, e)
}

func (p *pair) wait(t *testing.T) {
	t.Helper()
	n, e := p.b.wait()
	tells(t, p.x.Wait, n, e)
}

func (p *pair) again(t *testing.T) {
	t.Helper()
	n, e := p.b.stop()
	tells(t, p.x.Again, n, e)
}

func (p *pair) end(t *testing.T) {
	t.Helper()
	n, s, e := p.b.end()
	ends(t, p.x, n, s, e)
}

func (p *pair) reset() {
	p.x.Reset()
	p.b = newBook(p.b.rows)
}

// copied goes on as the copy; the other is given back.
func (p *pair) copied() *pair {
	old := *p
	p.x, p.b = p.x.Copy(), p.b.copy()
	return &old
}

func (p *pair) stands(t *testing.T) {
	t.Helper()
	stands(t, p.x, p.b)
}

// runs does all rows of so many of the deeds, each with a table of its own.
func runs(t *testing.T, long int, rows []api.Activity, deeds []func(p *pair)) {
	t.Helper()
	count := 1
	for range long {
		count *= len(deeds)
	}
	for n := range count {
		p := newPair(t, rows...)
		for range long {
			deeds[n%len(deeds)](p)
			n /= len(deeds)
		}
		p.stands(t)
	}
}

// deedsOf are all calls that change a table, of tasks of these numbers.
func deedsOf(t *testing.T, tasks ...int) []func(p *pair) {
	deeds := []func(p *pair){
		func(p *pair) { p.preempt(t) },
		func(p *pair) { p.wait(t) },
		func(p *pair) { p.again(t) },
		func(p *pair) { p.end(t) },
		func(p *pair) { p.reset() },
		func(p *pair) {
			old := p.copied()
			old.activate(t, 0)
			old.start(t, 0)
			old.stands(t)
		},
	}
	for _, n := range tasks {
		deeds = append(deeds,
			func(p *pair) { p.activate(t, n) },
			func(p *pair) { p.start(t, n) },
			func(p *pair) { p.release(t, n) })
	}
	return deeds
}

// P18.2 to P18.7: every call of one task in every order, up to five deep.
func TestEveryShortRun(t *testing.T) {
	for _, row := range []api.Activity{basic(1), basic(2), extended()} {
		for long := range 6 {
			runs(t, long, []api.Activity{row}, deedsOf(t, 0))
		}
	}
}

// P18.2 to P18.7: every call of several tasks, and of none, in every order.
func TestEveryTask(t *testing.T) {
	for long := range 5 {
		runs(t, long, []api.Activity{basic(2), extended()}, deedsOf(t, -1, 0, 1, 2))
	}
}

// step does one thing by chance; runs that get on are likelier than such as are refused.
func (p *pair) step(t *testing.T, c *chance) (old *pair) {
	t.Helper()
	n := c.below(len(p.b.rows)+2) - 1
	switch k := c.below(100); {
	case k < 30:
		p.activate(t, n)
	case k < 60:
		p.start(t, n)
	case k < 68:
		p.release(t, n)
	case k < 75:
		p.preempt(t)
	case k < 83:
		p.wait(t)
	case k < 86:
		p.again(t)
	case k < 97:
		p.end(t)
	case k < 98:
		p.reset()
	default:
		old = p.copied()
	}
	return old
}

// P18.2 to P18.7, R4: long runs, with copies that go their own ways: each step changes one table alone.
func TestLongRuns(t *testing.T) {
	c := chance(1)
	for range 150 {
		rows := make([]api.Activity, c.below(6))
		for i := range rows {
			rows[i] = []api.Activity{basic(1), basic(1 + c.below(4)), extended()}[c.below(3)]
		}
		tables := []*pair{newPair(t, rows...)}
		for range 200 {
			p := tables[c.below(len(tables))]
			if old := p.step(t, &c); old != nil && len(tables) < 3 {
				tables = append(tables, old)
			}
			for _, q := range tables {
				q.stands(t)
			}
		}
	}
}

// P18.2 to P18.7: as many tasks as may be.
func TestLongRunOfMany(t *testing.T) {
	c := chance(2)
	rows := make([]api.Activity, api.MaxTasks)
	for i := range rows {
		rows[i] = []api.Activity{basic(1 + c.below(api.MaxActivate)), extended()}[c.below(2)]
	}
	p := newPair(t, rows...)
	for range 4000 {
		p.step(t, &c)
		p.stands(t)
	}
}

// P18.2 to P18.7: whatever is done to three tasks, of which the first byte tells the kinds.
func FuzzTasks(f *testing.F) {
	f.Add([]byte{1, 8, 9, 1, 8})
	f.Add([]byte{5, 16, 17, 3, 0, 8, 17, 10, 4})
	f.Add([]byte{14, 24, 25, 1, 26, 25, 2, 25, 3, 6, 255})
	f.Fuzz(func(t *testing.T, b []byte) {
		if len(b) == 0 || len(b) > 200 {
			return
		}
		kinds := []api.Activity{basic(1), extended(), basic(2), basic(255)}
		p := newPair(t, kinds[b[0]%4], kinds[b[0]/4%4], kinds[b[0]/16%4])
		deeds := deedsOf(t, -1, 0, 1, 2, 3)
		for _, x := range b[1:] {
			deeds[int(x)%len(deeds)](p)
			p.stands(t)
		}
	})
}
