package explore

import (
	"math"
	"reflect"
	"testing"

	"tappet/api"
)

// full is a look in which each list has something.
func full() api.Look {
	return api.Look{
		Phase:     api.Up,
		Tasks:     []api.TaskLook{{Held: []int{1, 2}}, {State: api.Suspended, Held: []int{3}}},
		Frames:    []api.Frame{{Kind: api.FTask}, {Kind: api.FError}},
		Requested: []int{1, 12},
		Held:      [][]int{{1}, {2, 3}, nil},
		Counters:  []uint32{1, 2},
		Alarms:    []api.AlarmLook{{}, {Set: true}},
		Rings:     [][]int{nil, {1, 2}},
		Preempted: []int{3},
	}
}

func textOf(l api.Look) string { return string(write(nil, l)) }

// turns calls a function for each number, each yes and each list of a value, each turned alone: numbers in several ways, lists with the first thing less.
func turns(v reflect.Value, tell func()) {
	turned := func(values ...any) {
		kept := reflect.ValueOf(v.Interface())
		for _, x := range values {
			v.Set(reflect.ValueOf(x).Convert(v.Type()))
			tell()
		}
		v.Set(kept)
	}
	switch v.Kind() {
	case reflect.Struct:
		for n := range v.NumField() {
			turns(v.Field(n), tell)
		}
	case reflect.Slice:
		for n := range v.Len() {
			turns(v.Index(n), tell)
		}
		if v.Len() > 0 {
			turned(v.Slice(1, v.Len()).Interface())
		}
		if v.Len() > 1 {
			turned(v.Slice(0, v.Len()-1).Interface())
		}
	case reflect.Bool:
		turned(!v.Bool())
	case reflect.Uint32:
		turned(7, 71, math.MaxInt32, 1<<31, math.MaxUint32-1, math.MaxUint32)
	default:
		turned(7, 71, -7, math.MaxInt32, 1<<31, 1<<32+7, math.MaxInt)
	}
}

// P28.2: of all looks that differ in anything the texts do.
func TestTextsOfAllFields(t *testing.T) {
	l := full()
	seen := map[string]int{textOf(l): 0}
	turns(reflect.ValueOf(&l).Elem(), func() {
		text := textOf(l)
		if _, met := seen[text]; met {
			t.Errorf("two looks of one text: %q: %+v", text, l)
		}
		seen[text]++
	})
	if !reflect.DeepEqual(l, full()) || len(seen) < 200 {
		t.Error("not all was turned:", len(seen))
	}
}

// P28.2: lists are cut from one another: the same numbers in other lists are another look.
func TestTextsOfLists(t *testing.T) {
	seen := map[string]int{}
	for n, l := range []api.Look{
		{},
		{Requested: []int{1}},
		{Preempted: []int{1}},
		{Counters: []uint32{1}},
		{Requested: []int{1, 1}},
		{Requested: []int{11}},
		{Requested: []int{1}, Preempted: []int{1}},
		{Rings: [][]int{{1}}},
		{Held: [][]int{{1}}},
		{Held: [][]int{nil}},
		{Rings: [][]int{nil}},
		{Rings: [][]int{nil, nil}},
		{Rings: [][]int{{1}, nil}},
		{Rings: [][]int{nil, {1}}},
		{Rings: [][]int{{1, 2}, {3}}},
		{Rings: [][]int{{1}, {2, 3}}},
		{Rings: [][]int{{1, 2}}, Preempted: []int{3}},
		{Rings: [][]int{{1}}, Preempted: []int{2, 3}},
		{Held: [][]int{{0, 0}, {0}}},
		{Held: [][]int{{0}, {0, 0}}},
		{Tasks: make([]api.TaskLook, 1)},
		{Tasks: make([]api.TaskLook, 2)},
		{Tasks: []api.TaskLook{{Held: []int{0}}}},
		{Tasks: []api.TaskLook{{Held: []int{0}}, {}}},
		{Tasks: []api.TaskLook{{}, {Held: []int{0}}}},
		{Frames: make([]api.Frame, 1)},
		{Frames: make([]api.Frame, 2)},
		{Alarms: make([]api.AlarmLook, 1)},
		{Alarms: make([]api.AlarmLook, 2)},
	} {
		if other, met := seen[textOf(l)]; met {
			t.Errorf("the looks %d and %d have one text", other, n)
		}
		seen[textOf(l)] = n
	}
}

// P28.2: numbers are cut from one another: 1 and 101 are another look than 101 and 1.
func TestTextsOfNumbers(t *testing.T) {
	seen := map[string][]uint32{}
	for a := range uint32(130) {
		for b := range uint32(130) {
			pair := []uint32{a, b}
			text := textOf(api.Look{Counters: pair})
			if other, met := seen[text]; met {
				t.Errorf("the counters %d and %d have one text", other, pair)
			}
			seen[text] = pair
		}
	}
}

// P28.2: nil and empty lists are the same.
func TestTextsOfEmptyLists(t *testing.T) {
	empty := api.Look{Tasks: []api.TaskLook{}, Frames: []api.Frame{}, Requested: []int{}, Held: [][]int{}, Counters: []uint32{}, Alarms: []api.AlarmLook{}, Rings: [][]int{}, Preempted: []int{}}
	if textOf(empty) != textOf(api.Look{}) {
		t.Error("lists that are empty and nil have two texts")
	}
	within := api.Look{Tasks: []api.TaskLook{{Held: []int{}}}, Held: [][]int{{}}, Rings: [][]int{{}, {}}}
	if textOf(within) != textOf(api.Look{Tasks: make([]api.TaskLook, 1), Held: make([][]int, 1), Rings: make([][]int, 2)}) {
		t.Error("lists within that are empty and nil have two texts")
	}
}
