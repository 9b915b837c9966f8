package image_test

import (
	"math"
	"reflect"
	"testing"

	"tappet/api"
	"tappet/image"
)

func isSame(t *testing.T, what string, a, b api.Tables, want bool) {
	t.Helper()
	if image.Same(a, b) != want || image.Same(b, a) != want {
		t.Errorf("%q: Same: not %v: %s and %s", what, want, short(a), short(b))
	}
}

// bases are tables of many kinds, some of which may not be: Same does not ask that.
func bases() []api.Tables {
	m := &maker{11}
	l := []api.Tables{{}, small(), whole(), {Uses: -1, Tasks: make([]api.TaskRow, 2), Isrs: []api.IsrRow{{Own: []int{-1}}}}}
	odd := whole()
	odd.Tasks[1].Own, odd.Rings = []int{9, 9, -9}, nil
	l = append(l, odd)
	for range 12 {
		l = append(l, m.tables())
	}
	return l
}

// P10.4: tables are the same as themselves and as a copy, with nil lists and with empty ones.
func TestSameOnes(t *testing.T) {
	for _, x := range append(bases(), greatest(), crowded()) {
		y, z := plain(x), plain(x)
		fill(&z)
		isSame(t, "itself", x, x, true)
		isSame(t, "a copy", x, y, true)
		isSame(t, "nil and empty", x, z, true)
		isSame(t, "nil and empty", y, z, true)
	}
	x, y := small(), small()
	x.Tasks[0].Own, y.Tasks[0].Own = []int{}, nil
	x.Resources, y.Messages = []api.ResourceRow{}, []api.MessageRow{}
	isSame(t, "nil and empty", x, y, true)
}

// P10.4: tables that differ at one place, whichever it is: every field of every row, every list.
func TestEveryPlaceCounts(t *testing.T) {
	met := map[bool]int{}
	for _, base := range bases() {
		for i, v := range placesOf(ref(plain(base))) {
			for n := range turns(v) {
				x := plain(base)
				turn(placesOf(&x)[i], n)
				isSame(t, "one place", base, x, alike(base, x))
				met[alike(base, x)]++
			}
		}
	}
	if met[true] < 100 || met[false] < 10000 {
		t.Errorf("met %v", met)
	}
}

// P10.4: the fields by name, one turned at a time.
func TestFieldsCount(t *testing.T) {
	for what, turn := range map[string]func(x *api.Tables){
		"Uses": func(x *api.Tables) { x.Uses++ }, "Modes": func(x *api.Tables) { x.Modes++ }, "Depth": func(x *api.Tables) { x.Depth++ },
		"Frames": func(x *api.Tables) { x.Frames++ }, "Errors": func(x *api.Tables) { x.Errors++ }, "Callbacks": func(x *api.Tables) { x.Callbacks++ },
		"a task's Priority": func(x *api.Tables) { x.Tasks[3].Priority++ }, "a task's Ring": func(x *api.Tables) { x.Tasks[3].Ring++ },
		"a task's Full": func(x *api.Tables) { x.Tasks[3].Full = false }, "a task's Limit": func(x *api.Tables) { x.Tasks[3].Limit++ },
		"a task's Mask": func(x *api.Tables) { x.Tasks[3].Mask++ }, "a task's Internal": func(x *api.Tables) { x.Tasks[3].Internal++ },
		"a task's Own": func(x *api.Tables) { x.Tasks[3].Own[0]++ }, "a task's Auto": func(x *api.Tables) { x.Tasks[3].Auto++ },
		"no Own": func(x *api.Tables) { x.Tasks[3].Own = nil }, "some Own": func(x *api.Tables) { x.Tasks[2].Own = []int{0} },
		"a ring's Priority": func(x *api.Tables) { x.Rings[2].Priority++ }, "a ring's Capacity": func(x *api.Tables) { x.Rings[2].Capacity++ },
		"a resource's Internal": func(x *api.Tables) { x.Resources[6].Internal = true }, "a resource's Ceiling": func(x *api.Tables) { x.Resources[6].Ceiling++ },
		"a counter's Max": func(x *api.Tables) { x.Counters[1].Max++ }, "a counter's Base": func(x *api.Tables) { x.Counters[1].Base++ }, "a counter's Min": func(x *api.Tables) { x.Counters[1].Min++ },
		"an alarm's Counter": func(x *api.Tables) { x.Alarms[3].Counter++ }, "an alarm's Auto": func(x *api.Tables) { x.Alarms[3].Auto++ },
		"an alarm's Time": func(x *api.Tables) { x.Alarms[3].Time++ }, "an alarm's Cycle": func(x *api.Tables) { x.Alarms[3].Cycle++ },
		"an alarm's Kind": func(x *api.Tables) { x.Alarms[3].Action.Kind++ }, "an alarm's Task": func(x *api.Tables) { x.Alarms[3].Action.Task++ }, "an alarm's Mask": func(x *api.Tables) { x.Alarms[3].Action.Mask++ },
		"an ISR's Category": func(x *api.Tables) { x.Isrs[2].Category++ }, "an ISR's Priority": func(x *api.Tables) { x.Isrs[2].Priority++ }, "an ISR's Own": func(x *api.Tables) { x.Isrs[2].Own[0]++ },
		"a message's Kind": func(x *api.Tables) { x.Messages[6].Kind++ }, "a message's Length": func(x *api.Tables) { x.Messages[6].Length++ }, "a message's From": func(x *api.Tables) { x.Messages[6].From++ },
		"a message's Init": func(x *api.Tables) { x.Messages[6].Init += 1 << 63 }, "a message's Queue": func(x *api.Tables) { x.Messages[6].Queue++ },
		"a message's action's Kind": func(x *api.Tables) { x.Messages[6].Action.Kind++ }, "a message's action's Task": func(x *api.Tables) { x.Messages[6].Action.Task++ }, "a message's action's Mask": func(x *api.Tables) { x.Messages[6].Action.Mask++ },
	} {
		x := whole()
		turn(&x)
		isSame(t, what, whole(), x, false)
	}
}

// P10.4: numbers whose bytes in an image would be the same are not.
func TestNumbersBeyondBytes(t *testing.T) {
	base := whole()
	for i, v := range placesOf(&base) {
		for _, far := range []int64{256, 1 << 16, 1 << 31, 1 << 32, math.MinInt64} {
			x := whole()
			p := placesOf(&x)[i]
			switch v.Kind() {
			case reflect.Int:
				p.SetInt(p.Int() + far)
			case reflect.Uint32, reflect.Uint64:
				p.SetUint(p.Uint() + uint64(far))
			}
			isSame(t, "far", base, x, alike(base, x))
		}
	}
}
