package image_test

import (
	"bytes"
	"reflect"
	"slices"
	"testing"

	"tappet/api"
	"tappet/image"
)

// rooms are the stretches of memory in which lists lie, with all the room that they have.
func rooms(v reflect.Value) [][2]uintptr {
	var l [][2]uintptr
	switch v.Kind() {
	case reflect.Slice:
		if v.Cap() > 0 {
			size := v.Type().Elem().Size() * uintptr(v.Cap())
			l = append(l, [2]uintptr{v.Pointer(), v.Pointer() + size})
		}
		for i := range v.Len() {
			l = append(l, rooms(v.Index(i))...)
		}
	case reflect.Struct:
		for i := range v.NumField() {
			l = append(l, rooms(v.Field(i))...)
		}
	}
	return l
}

// apart: no two lists of all these values share memory.
func apart(t *testing.T, all ...any) {
	t.Helper()
	var l [][2]uintptr
	for _, x := range all {
		l = append(l, rooms(reflect.ValueOf(x))...)
	}
	slices.SortFunc(l, func(a, b [2]uintptr) int { return int(a[0]) - int(b[0]) })
	for i := 1; i < len(l); i++ {
		if l[i][0] < l[i-1][1] {
			t.Error("lists share memory")
			return
		}
	}
}

// scribble writes over a value, its lists with all the room that they have.
func scribble(v reflect.Value) {
	switch v.Kind() {
	case reflect.Struct:
		for i := range v.NumField() {
			scribble(v.Field(i))
		}
	case reflect.Slice:
		v = v.Slice(0, v.Cap())
		for i := range v.Len() {
			scribble(v.Index(i))
		}
	case reflect.Int:
		v.SetInt(-99)
	case reflect.Uint8, reflect.Uint32, reflect.Uint64:
		v.SetUint(99)
	case reflect.Bool:
		v.SetBool(!v.Bool())
	}
}

// answers asks all that may be asked of tables that may be and of their image.
func answers(t *testing.T, x api.Tables, b []byte) (c []byte, y api.Tables, l []api.Part) {
	t.Helper()
	c, e := image.Encode(x)
	y, also := image.Decode(b)
	l, too := image.Parts(b)
	if e != api.OK || also != api.OK || too != api.OK {
		t.Fatalf("Encode, Decode, Parts: %d, %d, %d", e, also, too)
	}
	return c, y, l
}

// R3: what is answered is new memory, apart from what was handed in and from another answer; what is written over it changes no later answer.
func TestAnswersAreNew(t *testing.T) {
	m := &maker{9}
	for n := range 300 {
		x := m.tables()
		switch n {
		case 0:
			x = whole()
		case 1:
			x = greatest()
		}
		b := imageOf(x)
		keptTables, keptBytes := plain(x), slices.Clone(b)
		for range 2 {
			c, y, l := answers(t, x, b)
			c2, y2, l2 := answers(t, x, b)
			apart(t, x, b, c, y, l, c2, y2, l2)
			for _, v := range []any{&c, &y, &l} {
				scribble(reflect.ValueOf(v).Elem())
			}
			if !bytes.Equal(c2, keptBytes) || !alike(y2, keptTables) || !alike(l2, partsOf(keptTables)) {
				t.Error("another answer changed")
			}
			encodes(t, "written over", x, keptBytes)
			decodes(t, "written over", b, keptTables)
		}
		if !alike(x, keptTables) || !bytes.Equal(b, keptBytes) {
			t.Errorf("changed: %s, not %s", short(x), short(keptTables))
		}
		if t.Failed() {
			return
		}
	}
}

// R3: what is handed in may be written over; an answer does not change with it.
func TestNothingIsKeptOfArguments(t *testing.T) {
	x, b := whole(), seal(wholeImage())
	c, y, l := answers(t, x, b)
	scribble(reflect.ValueOf(&x).Elem())
	scribble(reflect.ValueOf(&b).Elem())
	if !bytes.Equal(c, seal(wholeImage())) || !alike(y, whole()) || !alike(l, partsOf(whole())) {
		t.Error("an answer changed with what was handed in")
	}
}

// R3: Same changes nothing, and refused calls do not.
func TestNothingIsChanged(t *testing.T) {
	x, y := whole(), greatest()
	image.Same(x, y)
	image.Same(y, x)
	image.Same(x, x)
	if !alike(x, whole()) || !alike(y, greatest()) {
		t.Error("Same changed its tables")
	}
	x.Depth = 9
	refusesTables(t, "Depth", x)
	x.Depth = 3
	if !alike(x, whole()) {
		t.Error("Encode changed tables that it refused")
	}
	for set := range wrongs() {
		d := draft{mark: "TPT1", rows: wholeImage()[8:], keep: 1 << 20}
		wrongs()[set].turn(&d)
		b := d.bytes()
		kept := slices.Clone(b)
		refuses(t, wrongs()[set].what, b, wrongs()[set].code)
		if !bytes.Equal(b, kept) {
			t.Errorf("%q: bytes changed", wrongs()[set].what)
		}
	}
}

// R3: what stands in the room behind lists that are handed in is neither read nor written over.
func TestRoomBehindLists(t *testing.T) {
	x := whole()
	for i := range x.Tasks {
		x.Tasks[i].Own = append(slices.Clone(x.Tasks[i].Own), 77, 77, 77)[:len(x.Tasks[i].Own)]
	}
	for i := range x.Isrs {
		x.Isrs[i].Own = append(slices.Clone(x.Isrs[i].Own), 77, 77, 77)[:len(x.Isrs[i].Own)]
	}
	encodes(t, "room behind", x, seal(wholeImage()))
	for _, l := range [][]int{x.Tasks[0].Own, x.Tasks[2].Own, x.Isrs[0].Own, x.Isrs[1].Own} {
		if tail := l[len(l) : len(l)+3]; !slices.Equal(tail, []int{77, 77, 77}) {
			t.Errorf("written over: %v", tail)
		}
	}
	b := append(seal(wholeImage()), 77, 77, 77)
	decodes(t, "room behind", b[:len(b)-3], whole())
	refuses(t, "room behind", b[:len(b)-4], api.ErrCut)
	if !bytes.Equal(b[len(b)-3:], []byte{77, 77, 77}) {
		t.Error("written over behind the image")
	}
}

// R3: nil and empty lists are the same to Encode.
func TestNilAndEmpty(t *testing.T) {
	m := &maker{10}
	for range 300 {
		x := plain(m.tables())
		y := plain(x)
		fill(&y)
		encodes(t, "nil", x, imageOf(x))
		encodes(t, "empty, not nil", y, imageOf(x))
	}
}

// R4: what was asked ahead counts for nothing.
func TestNothingIsKept(t *testing.T) {
	m := &maker{12}
	var all []api.Tables
	for range 100 {
		all = append(all, m.tables())
	}
	for range 3 {
		shuffle(&m.chance, all)
		for _, x := range all {
			encodes(t, "again", x, imageOf(x))
			decodes(t, "again", imageOf(x), x)
			agrees(t, "between", imageOf(x)[:m.below(40)])
			refusesTables(t, "between", api.Tables{Tasks: x.Tasks})
		}
	}
}
