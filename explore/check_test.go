package explore_test

import (
	"math"
	"slices"
	"testing"

	"tappet/api"
)

// P28.1: each bound of a search.
func TestBounds(t *testing.T) {
	x, first := example()
	x.Modes = 3
	for what, c := range map[string]struct {
		turn   func(s *api.Search, n int)
		lo, hi int
	}{
		"mode":    {func(s *api.Search, n int) { s.Mode = n }, 0, 2},
		"length":  {func(s *api.Search, n int) { s.Length = n }, 0, 12},
		"workers": {func(s *api.Search, n int) { s.Workers = n }, 1, 16},
	} {
		for _, n := range append([]int{0, 1, 2, 3, 12, 13, 15, 16, 17}, farOff...) {
			s := first
			want := api.ErrSearch
			if c.turn(&s, n); n >= c.lo && n <= c.hi {
				want = api.OK
			}
			answers(t, what, x, s, want)
		}
	}
}

// P28.1: how many steps there are.
func TestAlphabet(t *testing.T) {
	x, s := example()
	for n := range 40 {
		s.Steps, s.Length = slices.Repeat([]api.Step{terminate}, n), n%2
		want := api.ErrSearch
		if n >= 1 && n <= 16 {
			want = api.OK
		}
		answers(t, "steps", x, s, want)
	}
	// Any step may stand there: what it is that a kernel does not know is idle.
	answers(t, "odd steps", x, search(2, api.Step{}, api.Step{Kind: -1, ID: math.MinInt, Service: math.MaxInt, A: math.MaxUint32}, start(7)), api.OK)
}

// P28.1: tables that may not be.
func TestTables(t *testing.T) {
	x, s := example()
	for what, turn := range map[string]func(x *api.Tables){
		"nothing":          func(x *api.Tables) { *x = api.Tables{} },
		"no mode":          func(x *api.Tables) { x.Modes = 0 },
		"too many modes":   func(x *api.Tables) { x.Modes = 9 },
		"no tasks":         func(x *api.Tables) { x.Tasks = nil },
		"no rings":         func(x *api.Tables) { x.Rings = nil },
		"a ring too great": func(x *api.Tables) { x.Rings[0].Capacity++ },
		"another depth":    func(x *api.Tables) { x.Depth++ },
		"a limit":          func(x *api.Tables) { x.Tasks[1].Limit = 0 },
		"a mode of none":   func(x *api.Tables) { x.Tasks[0].Auto = 2 },
	} {
		y := plain(x)
		turn(&y)
		answers(t, what, y, s, api.ErrSearch)
	}
}

// P28.1: how many scripts there are of so many steps: the greatest length that is not too many.
func TestWide(t *testing.T) {
	x, s := example()
	for alphabet, longest := range []int{1: 12, 12, 9, 7, 6, 6, 5, 5, 4, 4, 4, 4, 4, 4, 4, 3} {
		if alphabet == 0 {
			continue
		}
		s.Steps = slices.Repeat([]api.Step{terminate}, alphabet)
		for s.Length = range 13 {
			want := api.OK
			if s.Length > longest {
				want = api.ErrWide
			}
			if got := errorOf(x, s); got != want {
				t.Fatalf("the second reading: %d, not %d", got, want)
			}
			checks(t, x, s, want)
		}
	}
}

// P28.1: what is too wide and may not be besides, may not be.
func TestErrorsInOrder(t *testing.T) {
	x, _ := example()
	wide := search(12, slices.Repeat([]api.Step{terminate}, 16)...)
	answers(t, "wide", x, wide, api.ErrWide)
	for what, turn := range map[string]func(x *api.Tables, s *api.Search){
		"tables":       func(x *api.Tables, _ *api.Search) { x.Frames++ },
		"mode":         func(_ *api.Tables, s *api.Search) { s.Mode = 1 },
		"below modes":  func(_ *api.Tables, s *api.Search) { s.Mode = -1 },
		"steps":        func(_ *api.Tables, s *api.Search) { s.Steps = append(slices.Clone(s.Steps), terminate) },
		"length":       func(_ *api.Tables, s *api.Search) { s.Length = 13 },
		"workers":      func(_ *api.Tables, s *api.Search) { s.Workers = 17 },
		"no workers":   func(_ *api.Tables, s *api.Search) { s.Workers = 0 },
		"great length": func(_ *api.Tables, s *api.Search) { s.Length = math.MaxInt },
	} {
		y, s := plain(x), wide
		turn(&y, &s)
		answers(t, what, y, s, api.ErrSearch)
	}
}
