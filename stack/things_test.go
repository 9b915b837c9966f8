package stack_test

import (
	"math"
	"testing"

	"tappet/api"
)

type frame struct {
	kind api.FrameKind
	id   int
	name string
	gate [2]int
}

// Stacks of structs: they are equal, if all of their parts are.
func TestStructs(t *testing.T) {
	task := frame{api.FTask, 3, "t", [2]int{0, 1}}
	isr := frame{api.FIsr, 3, "t", [2]int{0, 1}}
	s := of(t, 4, task, isr, task, frame{})
	holds(t, s, 4, 4, frame{}, task, isr, task)
	finds(t, s, task, 1, true)
	finds(t, s, isr, 2, true)
	finds(t, s, frame{}, 0, true)
	for _, other := range []frame{
		{api.FError, 3, "t", [2]int{0, 1}},
		{api.FTask, 4, "t", [2]int{0, 1}},
		{api.FTask, 3, "u", [2]int{0, 1}},
		{api.FTask, 3, "t", [2]int{0, 2}},
	} {
		finds(t, s, other, 0, false)
	}
	c := s.Copy()
	cuts(t, s, 1, frame{}, task, isr)
	holds(t, s, 4, 4, task)
	pops(t, c, frame{}, task, isr, task)
	popsNothing(t, c, api.ErrUnderflow)
}

// What lies on a stack is a value of its own: changing what was pushed or told does not change it.
func TestStructsAreValues(t *testing.T) {
	s := made[frame](t, 2)
	v := frame{id: 1}
	push(t, s, v)
	v.id = 2
	push(t, s, v)
	v.gate[0] = 9
	top, _ := s.Top()
	top.name = "other"
	for x := range s.All() {
		x.id = 8
	}
	holds(t, s, 2, 2, frame{id: 2}, frame{id: 1})
}

// Things of no size, great ones, pointers.
func TestOtherThings(t *testing.T) {
	n := of(t, 2, struct{}{}, struct{}{})
	holds(t, n, 2, 2, struct{}{}, struct{}{})
	if n.Push(struct{}{}) != api.ErrOverflow {
		t.Error("no size")
	}
	finds(t, n, struct{}{}, 0, true)
	cuts(t, n, 1, struct{}{})

	a := of(t, 2, [100]int{1, 99: 2}, [100]int{1})
	finds(t, a, [100]int{1, 99: 2}, 1, true)
	finds(t, a, [100]int{99: 2}, 0, false)

	x, y := new(int), new(int)
	p := of(t, 3, x, nil)
	finds(t, p, x, 1, true)
	finds(t, p, y, 0, false)
	finds(t, p, nil, 0, true)
	pops(t, p, nil, x)
}

// P14.4: equal is what the language calls so: a float that is no number equals none, 0 and -0 are equal.
func TestFloats(t *testing.T) {
	s := of(t, 4, math.Copysign(0, -1), 1.5, math.NaN())
	finds(t, s, math.NaN(), 0, false)
	finds(t, s, 1.5, 1, true)
	finds(t, s, 0, 2, true)
	if v, e := s.Pop(); e != api.OK || v == v {
		t.Error("Pop:", v, e)
	}
}

// R1: an interface may hold what cannot be compared: that equals nothing, and what can be is found beside it.
func TestInterfaces(t *testing.T) {
	list := []int{1}
	s := made[any](t, 8)
	push[any](t, s, 1, "a", list, nil, list, func() {}, map[int]int{}, 2)
	for v, above := range map[any]int{2: 0, nil: 4, "a": 6, 1: 7} {
		finds(t, s, v, above, true)
	}
	for _, v := range []any{list, []int(nil), []string{}, func() {}, map[int]int{}, struct{ l []int }{}, int8(1), ""} {
		if n, ok := s.Find(v); n != 0 || ok {
			t.Errorf("Find: %d %v", n, ok)
		}
	}
	if s.Len() != 8 || s.High() != 8 {
		t.Error("Find changed it")
	}
}

type within struct {
	id   int
	what any
}

// R1: such things within structs and arrays.
func TestInterfacesWithin(t *testing.T) {
	list := []int{1}
	s := made[within](t, 4)
	push(t, s, within{1, 5}, within{1, list}, within{2, list}, within{2, 5})
	finds(t, s, within{1, 5}, 3, true)
	finds(t, s, within{2, 5}, 0, true)
	for _, v := range []within{{1, list}, {2, list}, {3, list}, {1, nil}} {
		if n, ok := s.Find(v); n != 0 || ok {
			t.Errorf("Find: %d %v", n, ok)
		}
	}
	a := made[[2]any](t, 3)
	push(t, a, [2]any{1, 2}, [2]any{list, 2}, [2]any{1, list})
	finds(t, a, [2]any{1, 2}, 2, true)
	if n, ok := a.Find([2]any{1, list}); n != 0 || ok {
		t.Errorf("Find: %d %v", n, ok)
	}
}
