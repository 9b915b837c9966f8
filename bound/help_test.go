package bound_test

import (
	"fmt"
	"math"
	"reflect"
	"slices"
	"testing"

	"tappet/api"
	"tappet/bound"
	"tappet/class"
)

// farOff are numbers of nothing, where there are at most 256 of a kind.
var farOff = []int{-1, -2, -64, 256, 257, 1 << 16, 1 << 31, 1<<32 - 1, 1 << 32, 1<<32 + 1, math.MaxInt, math.MinInt}

// example is that of the chapter: a, b and c, of which c is not preempted.
func example() (api.Config, api.Figures) {
	c := api.Config{
		CPU:   "c",
		OS:    api.Os{Name: "o"},
		Modes: []string{"m"},
		Tasks: []api.Task{
			{Name: "a", Priority: 3, Full: true, Activation: 1},
			{Name: "b", Priority: 2, Full: true, Activation: 1},
			{Name: "c", Priority: 1, Activation: 1},
		},
	}
	return c, api.Figures{Work: []uint64{2, 3, 4}, Period: []uint64{10, 15, 50}}
}

// small is a configuration for figures written by hand. Tasks: 0 is the lowest, 1 and 2 of one priority, 3 the highest; all are full. Resources: 0 of ceiling 3, 1 is linked to it, 2 is internal, of ceiling 4, 3 is an ISR's, too, 4 is the lowest's own, 5 is nobody's, 6 internal and the highest's own, 7 is RES_SCHEDULER.
func small() (api.Config, api.Figures) {
	c := api.Config{
		CPU:   "c",
		OS:    api.Os{Name: "o", Schedule: true},
		Modes: []string{"m"},
		Tasks: []api.Task{
			{Name: "a", Priority: 1, Full: true, Activation: 2, Resources: []int{0, 3, 4}},
			{Name: "b", Priority: 3, Full: true, Activation: 1, Resources: []int{1, 2}},
			{Name: "c", Priority: 3, Full: true, Activation: 1},
			{Name: "d", Priority: 6, Full: true, Activation: 1, Resources: []int{6}},
			{Name: "e", Priority: 4, Full: true, Activation: 1, Resources: []int{2, 4}},
		},
		Resources: []api.Resource{
			{Name: "r", Kind: api.ResStandard}, {Name: "s", Kind: api.ResLinked}, {Name: "t", Kind: api.ResInternal}, {Name: "u", Kind: api.ResStandard},
			{Name: "v", Kind: api.ResStandard}, {Name: "w", Kind: api.ResStandard}, {Name: "x", Kind: api.ResInternal},
		},
		Isrs: []api.Isr{{Name: "i", Category: 2, Priority: 70, Resources: []int{3}}, {Name: "j", Category: 1, Priority: 90}},
	}
	return c, api.Figures{
		Work:     []uint64{20, 11, 12, 3, 7},
		Period:   []uint64{100, 90, 80, 70, 60},
		IsrWork:  []uint64{2, 0},
		IsrEvery: []uint64{50, 1},
		Sections: []api.Section{{Task: 0, Resource: 0, Length: 5}, {Task: 1, Resource: 1, Length: 2}, {Task: 4, Resource: 4, Length: 7}},
	}
}

// checks: it is told whether figures may be, by every call, whatever the task, limits too great, and as many limits as there are none of.
func checks(t *testing.T, what string, c api.Config, f api.Figures, want api.Errno) {
	t.Helper()
	if e := bound.Check(c, f); e != want {
		t.Errorf("%s: Check: %d, not %d", what, e, want)
	}
	if want == api.OK {
		return
	}
	for _, task := range append([]int{0, len(c.Tasks)}, farOff...) {
		if n, e := bound.Blocked(c, f, task); e != want || n != 0 {
			t.Errorf("%s: Blocked(%d): %d, %d, not %d", what, task, n, e, want)
		}
		for _, limit := range []uint64{0, 100, api.MaxLimit, api.MaxLimit + 1, math.MaxUint64} {
			if r, e := bound.Reckon(c, f, task, limit); e != want || r != (api.Reply{}) {
				t.Errorf("%s: Reckon(%d, %d): %+v, %d, not %d", what, task, limit, r, e, want)
			}
		}
	}
	for _, limits := range [][]uint64{nil, make([]uint64, len(c.Tasks)), slices.Repeat([]uint64{api.MaxLimit + 1}, len(c.Tasks))} {
		if l, e := bound.All(c, f, limits); e != want || len(l) != 0 {
			t.Errorf("%s: All: %+v, %d, not %d", what, l, e, want)
		}
	}
}

// refuses: ErrFigures of the small configuration with figures in which something was turned.
func refuses(t *testing.T, what string, turn func(f *api.Figures)) {
	t.Helper()
	c, f := small()
	turn(&f)
	checks(t, what, c, f, api.ErrFigures)
}

// takes: OK of the same.
func takes(t *testing.T, what string, turn func(f *api.Figures)) {
	t.Helper()
	c, f := small()
	turn(&f)
	checks(t, what, c, f, api.OK)
}

// blocks: it is told how long each task can be blocked, by all three calls; the second reading agrees.
func blocks(t *testing.T, what string, c api.Config, f api.Figures, want ...uint64) {
	t.Helper()
	mustBe(t, what, c)
	all, e := bound.All(c, f, make([]uint64, len(c.Tasks)))
	if e != api.OK || len(all) != len(want) {
		t.Fatalf("%s: All: %d, %+v", what, e, all)
	}
	for task, n := range want {
		if b, e := bound.Blocked(c, f, task); e != api.OK || b != n {
			t.Errorf("%s: Blocked(%d): %d, %d, not %d", what, task, b, e, n)
		}
		if b := blockedOf(c, f, task); b != n {
			t.Errorf("%s: the second reading tells %d of %d, not %d", what, b, task, n)
		}
		r, e := bound.Reckon(c, f, task, 0)
		if e != api.OK || r != (api.Reply{Blocked: n}) || all[task] != r {
			t.Errorf("%s: Reckon(%d): %d, %+v, and of all %+v; blocked %d", what, task, e, r, all[task], n)
		}
	}
}

// worsts: these are the worst times of all tasks, by both calls; 0: there is none up to the greatest limit. Just at the limit a time is met, below it not.
func worsts(t *testing.T, what string, c api.Config, f api.Figures, want ...uint64) {
	t.Helper()
	mustBe(t, what, c)
	for task, n := range want {
		limits := []uint64{api.MaxLimit}
		if n > 0 {
			limits = append(limits, n, n-1, min(n+1, api.MaxLimit))
		}
		for _, limit := range limits {
			reply := api.Reply{Blocked: blockedOf(c, f, task)}
			if n > 0 && limit >= n {
				reply.Worst, reply.Meets = n, true
			}
			if r, e := bound.Reckon(c, f, task, limit); e != api.OK || r != reply {
				t.Errorf("%s: Reckon(%d, %d): %d, %+v, not %+v", what, task, limit, e, r, reply)
			}
			all := make([]uint64, len(c.Tasks))
			all[task] = limit
			if l, e := bound.All(c, f, all); e != api.OK || len(l) != len(all) || l[task] != reply {
				t.Errorf("%s: All, %d: %d, %+v, not %+v", what, task, e, l, reply)
			}
		}
	}
}

func mustBe(t *testing.T, what string, c api.Config) {
	t.Helper()
	if v := class.Check(c); v.Code != api.OK {
		t.Fatalf("%s: the configuration may not be: %+v", what, v)
	}
}

// plain is a copy in new memory, in which each empty list is nil.
func plain[T any](x T) T {
	v := reflect.New(reflect.TypeOf(x)).Elem()
	v.Set(copied(reflect.ValueOf(x)))
	return v.Interface().(T)
}

func copied(v reflect.Value) reflect.Value {
	out := reflect.New(v.Type()).Elem()
	switch v.Kind() {
	case reflect.Slice:
		if v.Len() > 0 {
			out = reflect.MakeSlice(v.Type(), v.Len(), v.Len())
		}
		for i := range v.Len() {
			out.Index(i).Set(copied(v.Index(i)))
		}
	case reflect.Struct:
		for i := range v.NumField() {
			out.Field(i).Set(copied(v.Field(i)))
		}
	default:
		out.Set(v)
	}
	return out
}

// alike: nil and empty lists are one.
func alike[T any](a, b T) bool { return reflect.DeepEqual(plain(a), plain(b)) }

// short is what a failing test says of something that may be long.
func short(x any) string {
	s := fmt.Sprintf("%+v", x)
	return fmt.Sprintf("%q", s[:min(len(s), 3000)])
}
