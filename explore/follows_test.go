package explore_test

import (
	"slices"
	"testing"

	"tappet/api"
	"tappet/explore"
)

// P28.5: the answers do not hang on Workers; by chance.
func TestWorkers(t *testing.T) {
	c := chance(3)
	all := goals()
	for range 60 {
		x := c.tables()
		s := c.search(x, 120)
		s.Workers = 1
		mustBe(t, "by chance", x)
		v, e := explore.Look(x, s)
		g := all[c.below(len(all))]
		l, ok, e2 := explore.Find(x, s, g)
		if e != api.OK || e2 != api.OK {
			t.Fatalf("%d, %d: %+v of %s", e, e2, s, short(x))
		}
		for s.Workers = 2; s.Workers <= api.MaxWorkers; s.Workers++ {
			if w, e := explore.Look(x, s); e != api.OK || !alike(w, v) {
				t.Fatalf("%+v, %d, not %+v: %+v of %s", w, e, v, s, short(x))
			}
			if m, found, e := explore.Find(x, s, g); e != api.OK || found != ok || !slices.Equal(m, l) {
				t.Fatalf("%+v, %v, %d, not %+v: %+v of %s", m, found, e, l, s, short(x))
			}
		}
	}
}

// P28.5: a goal that the script of a worker meets, and one of another worker's, is found in the order of scripts, however many workers there are: all first steps meet it but some.
func TestWorkersMeetTheSame(t *testing.T) {
	x, s := example()
	noop := call(api.SvGetTaskID)
	high := api.Goal{Kind: api.GoalRun, A: int(api.FTask), B: 1}
	for n := range 16 {
		s.Steps, s.Length = slices.Repeat([]api.Step{noop}, 16), 2
		for i := n; i < 16; i++ {
			s.Steps[i] = call(api.SvActivateTask, 1, uint32(i))
		}
		for _, s.Workers = range []int{1, 2, 3, 7, 15, 16} {
			finds(t, "many meet it", x, s, high, s.Steps[n:n+1])
		}
	}
}

// P28.5: Scripts are powers; Looks are 1 to as many; by chance.
func TestPowers(t *testing.T) {
	c := chance(4)
	var one, several, each int
	for range 400 {
		x := c.tables()
		s := c.search(x, 400)
		v, e := explore.Look(x, s)
		if e != api.OK || len(v.Scripts) != s.Length+1 || len(v.Looks) != s.Length+1 || len(v.Marks.Rings) != len(x.Rings) {
			t.Fatalf("%+v, %d: %+v of %s", v, e, s, short(x))
		}
		last := v.Idle
		for _, status := range v.Status {
			last += status.Times
		}
		power := 1
		for n, scripts := range v.Scripts {
			if scripts != power || v.Looks[n] < 1 || v.Looks[n] > scripts {
				t.Fatalf("%+v: %+v of %s", v, s, short(x))
			}
			switch {
			case n == 0:
			case v.Looks[n] == 1:
				one++
			case v.Looks[n] == scripts:
				each++
			default:
				several++
			}
			if n > 0 {
				last -= scripts
			}
			power *= len(s.Steps)
		}
		if last != 0 {
			t.Fatalf("%d last steps too many: %+v: %+v of %s", last, v, s, short(x))
		}
	}
	if one < 50 || several < 300 || each < 50 {
		t.Error("too little of something:", one, several, each)
	}
}

// P28.5: a goal that a script of Find meets no script ahead of it meets; the script itself does.
func TestNoEarlierOne(t *testing.T) {
	c := chance(5)
	var ahead int
	for range 80 {
		x := c.tables()
		s := c.search(x, 100)
		ran := allOf(x, s)
		for _, g := range goals() {
			if c.below(8) > 0 {
				continue
			}
			l, ok, e := explore.Find(x, s, g)
			if e != api.OK {
				t.Fatalf("%d: %+v of %s", e, s, short(x))
			}
			met := false
			for _, r := range ran {
				met = explore.Meets(g, r.look, r.answer)
				if met != (ok && slices.Equal(r.script, l)) {
					t.Fatalf("Find(%+v): %+v, %v, but %+v meets it: %v: %+v of %s", g, l, ok, r.script, met, s, short(x))
				}
				if met {
					break
				}
				ahead++
			}
			if met != ok {
				t.Fatalf("Find(%+v): %+v, %v: %+v of %s", g, l, ok, s, short(x))
			}
		}
	}
	if ahead < 5000 {
		t.Error("few scripts ahead:", ahead)
	}
}
