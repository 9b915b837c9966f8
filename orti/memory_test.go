package orti_test

import (
	"reflect"
	"slices"
	"testing"

	"tappet/api"
	"tappet/orti"
)

// rooms are the stretches of memory in which lists lie, with all the room that they have.
func rooms(v reflect.Value) [][2]uintptr {
	var l [][2]uintptr
	switch v.Kind() {
	case reflect.Slice:
		if v.Cap() > 0 {
			size := v.Type().Elem().Size() * uintptr(v.Cap())
			l = append(l, [2]uintptr{v.Pointer(), v.Pointer() + size})
		}
		for i := range v.Len() {
			l = append(l, rooms(v.Index(i))...)
		}
	case reflect.Struct:
		for i := range v.NumField() {
			l = append(l, rooms(v.Field(i))...)
		}
	}
	return l
}

// apart: no two lists of all these values share memory.
func apart(t *testing.T, all ...any) {
	t.Helper()
	var l [][2]uintptr
	for _, x := range all {
		l = append(l, rooms(reflect.ValueOf(x))...)
	}
	slices.SortFunc(l, func(a, b [2]uintptr) int { return int(a[0]) - int(b[0]) })
	for i := 1; i < len(l); i++ {
		if l[i][0] < l[i-1][1] {
			t.Error("lists share memory")
			return
		}
	}
}

// scribble writes over a value, its lists with all the room that they have.
func scribble(v reflect.Value) {
	switch v.Kind() {
	case reflect.Struct:
		for i := range v.NumField() {
			scribble(v.Field(i))
		}
	case reflect.Slice:
		v = v.Slice(0, v.Cap())
		for i := range v.Len() {
			scribble(v.Index(i))
		}
	case reflect.Int:
		v.SetInt(-99)
	case reflect.Uint32, reflect.Uint64:
		v.SetUint(99)
	case reflect.Bool:
		v.SetBool(!v.Bool())
	case reflect.String:
		v.SetString("-")
	}
}

// R3: what is answered is new memory, apart from what was handed in and from another answer; what is written over it changes no later answer.
func TestAnswersAreNew(t *testing.T) {
	m := &maker{chance: 5}
	for n := range 300 {
		c := m.config()
		if n == 0 {
			c = whole()
		}
		kept := plain(c)
		want, _ := factsOf(kept)
		text, _ := textOf(want)
		for range 2 {
			o, e := orti.Facts(c)
			o2, also := orti.Facts(c)
			p, too := orti.Read(text)
			p2, last := orti.Read(text)
			if e != api.OK || also != api.OK || too != api.OK || last != api.OK {
				t.Fatal(e, also, too, last)
			}
			apart(t, c, o, o2, p, p2)
			scribble(reflect.ValueOf(&o).Elem())
			scribble(reflect.ValueOf(&p).Elem())
			if !alike(o2, want) || !alike(p2, want) {
				t.Error("another answer changed")
			}
			facts(t, "written over", c, want)
			reads(t, "written over", text, want)
			scribble(reflect.ValueOf(&c).Elem())
			if !alike(o2, want) {
				t.Error("an answer changed with the configuration")
			}
			c = plain(kept)
		}
		if t.Failed() {
			return
		}
	}
}

// R3: what is handed in is not changed, whether it is taken or refused; what stands in the room behind lists is neither read nor written over.
func TestArgumentsStay(t *testing.T) {
	m := &maker{chance: 6}
	for n := range 600 {
		c, o := m.config(), m.facts()
		if n%3 == 2 {
			c, o = spoilt(m, c), spoilt(m, o)
		}
		l, expr := m.look(o), m.expression(o)
		c, o, l = roomy(c), roomy(o), roomy(l)
		keptConfig, keptFacts, keptLook := plain(c), plain(o), plain(l)
		orti.Facts(c)
		orti.Write(o)
		got, e := orti.Eval(o, expr, l)
		if want, also := valueOf(keptFacts, expr, keptLook); got != want || e != also {
			t.Errorf("Eval of %q: %d %q, not %d %q", expr, e, got, also, want)
		}
		if !alike(c, keptConfig) || !alike(o, keptFacts) || !alike(l, keptLook) {
			t.Error("an argument changed")
		}
		if !untouched(reflect.ValueOf(c)) || !untouched(reflect.ValueOf(o)) || !untouched(reflect.ValueOf(l)) {
			t.Error("written over behind a list")
		}
		if t.Failed() {
			return
		}
	}
}

// roomy is a copy in which one thing more stands in the room behind each list; inner lists come first, since the outer ones are laid elsewhere.
func roomy[T any](x T) T {
	x = plain(x)
	for _, v := range slices.Backward(places(reflect.ValueOf(&x).Elem())) {
		if v.Kind() != reflect.Slice {
			continue
		}
		n := v.Len()
		more := reflect.New(v.Type().Elem()).Elem()
		scribble(more)
		v.Set(reflect.Append(v, more).Slice(0, n))
	}
	return x
}

func untouched(v reflect.Value) bool {
	for _, l := range places(v) {
		if l.Kind() != reflect.Slice {
			continue
		}
		want := reflect.New(l.Type().Elem()).Elem()
		scribble(want)
		if !reflect.DeepEqual(l.Slice(0, l.Len()+1).Index(l.Len()).Interface(), want.Interface()) {
			return false
		}
	}
	return true
}

// fill makes each list that is nil an empty one.
func fill[T any](x T) T {
	x = plain(x)
	for _, v := range places(reflect.ValueOf(&x).Elem()) {
		if v.Kind() == reflect.Slice && v.Len() == 0 {
			v.Set(reflect.MakeSlice(v.Type(), 0, 0))
		}
	}
	return x
}

// R3: nil and empty lists are the same to every call.
func TestNilAndEmpty(t *testing.T) {
	m := &maker{chance: 7}
	for range 300 {
		c, o := plain(m.config()), plain(m.facts())
		l, expr := plain(m.look(o)), m.expression(o)
		want, _ := factsOf(c)
		facts(t, "nil", c, want)
		facts(t, "empty, not nil", fill(c), want)
		text, _ := textOf(o)
		writes(t, "nil", o, text)
		writes(t, "empty, not nil", fill(o), text)
		got, e := orti.Eval(o, expr, l)
		if also, too := orti.Eval(fill(o), expr, fill(l)); also != got || too != e {
			t.Errorf("Eval of %q: %d %q, not %d %q", expr, too, also, e, got)
		}
	}
}

// R4: what was asked ahead counts for nothing.
func TestNothingIsKept(t *testing.T) {
	m := &maker{chance: 8}
	var all []api.Config
	for range 60 {
		all = append(all, m.config())
	}
	for range 3 {
		shuffle(&m.chance, all)
		for _, c := range all {
			want, _ := factsOf(c)
			facts(t, "again", c, want)
			text, _ := textOf(want)
			writes(t, "again", want, text)
			tellsNothing(t, "between", api.Config{Tasks: c.Tasks})
			writesNothing(t, "between", api.Orti{Tasks: want.Tasks})
			agrees(t, "between", m.twist(text))
			noValue(t, want, "$state[0]", api.Look{})
		}
	}
}
