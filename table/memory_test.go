package table_test

import (
	"math"
	"reflect"
	"slices"
	"testing"

	"tappet/api"
	"tappet/table"
)

// scribble writes over every list of tables, with all the room that it has.
func scribble(v reflect.Value) {
	switch v.Kind() {
	case reflect.Struct:
		for i := range v.NumField() {
			scribble(v.Field(i))
		}
	case reflect.Slice:
		v = v.Slice(0, v.Cap())
		for i := range v.Len() {
			scribble(v.Index(i))
		}
	case reflect.Int:
		v.SetInt(-99)
	case reflect.Uint32, reflect.Uint64:
		v.SetUint(99)
	case reflect.Bool:
		v.SetBool(!v.Bool())
	}
}

// R3: what Make answers is new memory, apart from the configuration and from a later answer; what is written over it changes neither.
func TestAnswersAreNew(t *testing.T) {
	m := &maker{7}
	for n := range 600 {
		c := m.config()
		switch n {
		case 0:
			c = whole()
		case 1:
			c = plain(greatest())
		}
		kept := plain(c)
		for range 2 {
			x, y := made(t, "made", c), made(t, "made", c)
			apart(t, c, x, y)
			scribble(reflect.ValueOf(&x).Elem())
			makes(t, "written over", c, tablesOf(kept))
			equal(t, "another answer", y, tablesOf(kept))
		}
		if !same(kept, c) {
			t.Errorf("changed: %s, not %s", short(c), short(kept))
		}
		if t.Failed() {
			return
		}
	}
}

// R3: what stands behind the lists that are handed in, in their room, is not written over, and not read.
func TestRoomBehindLists(t *testing.T) {
	c, kept := whole(), whole()
	for i := range c.Tasks {
		for _, l := range []*[]int{&c.Tasks[i].Auto, &c.Tasks[i].Resources, &c.Tasks[i].Events, &c.Tasks[i].Messages} {
			*l = behind(*l)
		}
	}
	for i := range c.Isrs {
		c.Isrs[i].Resources = behind(c.Isrs[i].Resources)
	}
	for i := range c.Alarms {
		c.Alarms[i].Auto = behind(c.Alarms[i].Auto)
	}
	makes(t, "room behind", c, wholeTables())
	isUntouched(t, c.Tasks[0].Auto, c.Tasks[0].Resources, c.Tasks[1].Events, c.Tasks[3].Resources, c.Isrs[0].Resources, c.Alarms[1].Auto)
	equal(t, "room behind", c, kept)
	x := wholeTables()
	for i := range x.Tasks {
		x.Tasks[i].Own = behind(x.Tasks[i].Own)
	}
	for i := range x.Isrs {
		x.Isrs[i].Own = behind(x.Isrs[i].Own)
	}
	taken(t, "room behind", x)
	isUntouched(t, x.Tasks[0].Own, x.Tasks[3].Own, x.Isrs[0].Own, x.Isrs[1].Own)
}

// behind is a list with three numbers in the room behind it.
func behind(l []int) []int { return append(slices.Clone(l), 77, 77, 77)[:len(l)] }

func isUntouched(t *testing.T, lists ...[]int) {
	t.Helper()
	for _, l := range lists {
		if tail := l[len(l) : len(l)+3]; !slices.Equal(tail, []int{77, 77, 77}) {
			t.Errorf("written over: %s", short(tail))
		}
	}
}

// R3: nil and empty lists are the same.
func TestNilAndEmpty(t *testing.T) {
	m := &maker{8}
	for range 300 {
		c := m.config()
		d := plain(c)
		fill(reflect.ValueOf(&d).Elem())
		x := made(t, "nil", plain(c))
		makes(t, "empty, not nil", d, x)
		y := plain(x)
		taken(t, "nil", y)
		fill(reflect.ValueOf(&y).Elem())
		taken(t, "empty, not nil", y)
	}
}

// fill makes each list that is nil an empty one.
func fill(v reflect.Value) {
	switch v.Kind() {
	case reflect.Struct:
		for i := range v.NumField() {
			fill(v.Field(i))
		}
	case reflect.Slice:
		if v.Len() == 0 {
			v.Set(reflect.MakeSlice(v.Type(), 0, 0))
		}
		for i := range v.Len() {
			fill(v.Index(i))
		}
	}
}

// R4: what was asked ahead counts for nothing.
func TestNothingIsKept(t *testing.T) {
	m := &maker{9}
	var configs []api.Config
	var all []api.Tables
	for range 150 {
		c := m.config()
		x := made(t, "made", c)
		if m.yes() {
			m.spoilTables(&x)
		}
		configs, all = append(configs, c), append(all, x)
	}
	for range 3 {
		shuffle(&m.chance, configs)
		shuffle(&m.chance, all)
		for i := range configs {
			makes(t, "again", configs[i], tablesOf(configs[i]))
			agrees(t, "again", all[i])
			if x, e := table.Make(api.Config{CPU: "c", Tasks: []api.Task{{Priority: math.MaxInt}}}); e != api.ErrTables || len(x.Tasks) > 0 {
				t.Errorf("refused: %d", e)
			}
		}
	}
}
