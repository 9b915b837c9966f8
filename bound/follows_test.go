package bound_test

import (
	"testing"

	"tappet/api"
	"tappet/bound"
)

// holds: P27.5 of a task in two systems, of which the second is the harder one, or has the lesser limit.
func holds(t *testing.T, easy, hard api.Reply, about ...any) {
	t.Helper()
	if hard.Blocked < easy.Blocked || easy.Meets && hard.Meets && hard.Worst < easy.Worst || hard.Meets && !easy.Meets {
		t.Fatalf("%+v, and harder %+v: %s", easy, hard, short(about))
	}
}

func reckoned(t *testing.T, c api.Config, f api.Figures, task int, limit uint64) api.Reply {
	t.Helper()
	r, e := bound.Reckon(c, f, task, limit)
	if e != api.OK {
		t.Fatalf("Reckon(%d, %d): %d: %s of %s", task, limit, e, short(f), short(c))
	}
	if r.Meets && (r.Worst < f.Work[task]+r.Blocked || r.Worst > limit) || !r.Meets && r.Worst != 0 {
		t.Fatalf("Reckon(%d, %d): %+v: %s of %s", task, limit, r, short(f), short(c))
	}
	return r
}

// P27.5: more work of another task, a shorter period of one, a lesser limit; in systems by chance.
func TestFollows(t *testing.T) {
	c := chance(5)
	var more, sooner, less int
	for range 6000 {
		x := c.config()
		f := c.figures(x, pick(&c, scale{4, 60}, scale{2, 9}, scale{12, 200}))
		task, limit := c.below(len(x.Tasks)), uint64(c.below(300))
		r := reckoned(t, x, f, task, limit)

		lesser := uint64(c.below(int(limit) + 1))
		s := reckoned(t, x, f, task, lesser)
		holds(t, r, s, "a lesser limit", lesser, limit, f, x)
		if s.Meets && s != r || s.Blocked != r.Blocked {
			t.Fatalf("with the limit %d %+v, with %d %+v", limit, r, lesser, s)
		}
		if r != s {
			less++
		}

		other := c.below(len(x.Tasks))
		if other == task {
			continue
		}
		g := plain(f)
		g.Work[other] += uint64(1 + c.below(20))
		s = reckoned(t, x, g, task, limit)
		holds(t, r, s, "more work of", other, f, g, x)
		if r != s {
			more++
		}

		g = plain(f)
		g.Period[other] = uint64(1 + c.below(int(f.Period[other])))
		s = reckoned(t, x, g, task, limit)
		holds(t, r, s, "a shorter period of", other, f, g, x)
		if r.Blocked != s.Blocked {
			t.Fatal("a period changed what blocks")
		}
		if r != s {
			sooner++
		}
	}
	if more < 500 || sooner < 500 || less < 500 {
		t.Error("too little of something:", more, sooner, less)
	}
}

// P27.5 on one system with many tasks: whatever of it grows, nothing gets better, and what does not count changes nothing.
func TestFollowsGrowing(t *testing.T) {
	c, f := small()
	for other := range c.Tasks {
		for task := range c.Tasks {
			if other == task {
				continue
			}
			g := plain(f)
			ahead := reckoned(t, c, g, task, 200)
			for g.Work[other] < 120 {
				g.Work[other]++
				r := reckoned(t, c, g, task, 200)
				holds(t, ahead, r, task, other, g)
				ahead = r
			}
			g = plain(f)
			ahead = reckoned(t, c, g, task, 200)
			for g.Period[other] > 1 {
				g.Period[other]--
				r := reckoned(t, c, g, task, 200)
				holds(t, ahead, r, task, other, g)
				if c.Tasks[other].Priority < c.Tasks[task].Priority && r != ahead {
					t.Errorf("the period of %d counts for %d", other, task)
				}
				ahead = r
			}
		}
	}
}
