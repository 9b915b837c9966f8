package ceil_test

import (
	"fmt"
	"reflect"
	"slices"
	"testing"

	"tappet/api"
	"tappet/ceil"
)

const (
	std      = api.ResStandard
	linked   = api.ResLinked
	internal = api.ResInternal
)

// chance is a row of numbers that is the same in every run.
type chance uint64

func (c *chance) below(n int) int {
	*c = *c*6364136223846793005 + 1442695040888963407
	return int((uint64(*c) >> 33) % uint64(n))
}

func (c *chance) yes() bool { return c.below(2) == 0 }

func pick[T any](c *chance, l ...T) T { return l[c.below(len(l))] }

func shuffle[T any](c *chance, l []T) {
	for i := range l {
		j := i + c.below(len(l)-i)
		l[i], l[j] = l[j], l[i]
	}
}

// plain is a copy in new memory, in which each empty list is nil.
func plain[T any](x T) T {
	v := reflect.New(reflect.TypeOf(x)).Elem()
	v.Set(copied(reflect.ValueOf(x)))
	return v.Interface().(T)
}

func copied(v reflect.Value) reflect.Value {
	out := reflect.New(v.Type()).Elem()
	switch v.Kind() {
	case reflect.Slice:
		if v.Len() > 0 {
			out = reflect.MakeSlice(v.Type(), v.Len(), v.Len())
		}
		for i := range v.Len() {
			out.Index(i).Set(copied(v.Index(i)))
		}
	case reflect.Struct:
		for i := range v.NumField() {
			out.Field(i).Set(copied(v.Field(i)))
		}
	default:
		out.Set(v)
	}
	return out
}

// rooms are the stretches of memory in which lists lie, with all the room that they have.
func rooms(v reflect.Value) [][2]uintptr {
	var l [][2]uintptr
	switch v.Kind() {
	case reflect.Slice:
		if v.Cap() > 0 {
			size := v.Type().Elem().Size() * uintptr(v.Cap())
			l = append(l, [2]uintptr{v.Pointer(), v.Pointer() + size})
		}
		for i := range v.Len() {
			l = append(l, rooms(v.Index(i))...)
		}
	case reflect.Struct:
		for i := range v.NumField() {
			l = append(l, rooms(v.Field(i))...)
		}
	}
	return l
}

// apart: no two lists of all these values share memory.
func apart(t *testing.T, all ...any) {
	t.Helper()
	var l [][2]uintptr
	for _, x := range all {
		l = append(l, rooms(reflect.ValueOf(x))...)
	}
	slices.SortFunc(l, func(a, b [2]uintptr) int { return int(a[0]) - int(b[0]) })
	for i := 1; i < len(l); i++ {
		if l[i][0] < l[i-1][1] {
			t.Error("lists share memory")
			return
		}
	}
}

// short is what a failing test says of something that may be long.
func short(x any) string {
	s := fmt.Sprintf("%+v", x)
	return fmt.Sprintf("%q", s[:min(len(s), 700)])
}

// example is the configuration of the chapter's examples.
func example() api.Config {
	return api.Config{
		Tasks: []api.Task{
			{Name: "a", Priority: 1, Full: true, Resources: []int{0}},
			{Name: "b", Priority: 3, Full: true, Resources: []int{1}},
			{Name: "c", Priority: 2, Resources: []int{2}},
		},
		Resources: []api.Resource{{Kind: std}, {Kind: linked, Link: 0}, {Kind: internal}},
		Isrs:      []api.Isr{{Priority: 70, Resources: []int{0}}},
	}
}

// whole is a configuration with two groups, 0 3 4 6 around 4 and 1 alone, a standard resource 7 that nobody uses, and the internal ones 2 and 5.
func whole() api.Config {
	return api.Config{
		OS: api.Os{Schedule: true},
		Resources: []api.Resource{
			{Kind: linked, Link: 3}, {Kind: std}, {Kind: internal}, {Kind: linked, Link: 6},
			{Kind: std}, {Kind: internal}, {Kind: linked, Link: 4}, {Kind: std},
		},
		Tasks: []api.Task{
			{Priority: 4, Full: true, Resources: []int{0, 1, 2, 3}},
			{Priority: 9, Resources: []int{5}},
			{Priority: 7, Full: true, Resources: []int{2}},
			{Priority: 1, Full: true, Resources: []int{4, 5}},
			{Priority: 6, Full: true},
			{Priority: 6, Full: true, Resources: []int{0, 6}},
		},
		Isrs: []api.Isr{
			{Priority: 80},
			{Priority: 66, Resources: []int{1}},
			{Priority: 5, Resources: []int{1, 3}},
		},
	}
}

// turned is that configuration in which something was turned.
func turned(turns ...func(c *api.Config)) api.Config {
	c := whole()
	for _, turn := range turns {
		turn(&c)
	}
	return c
}

// refused: all functions answer an error, and nothing beside it, whatever is asked for.
func refused(t *testing.T, what string, c api.Config, want api.Errno) {
	t.Helper()
	if e := ceil.Check(c); e != want {
		t.Errorf("%q: Check: %d, not %d: %s", what, e, want, short(c))
	}
	if x, e := ceil.Reckon(c); e != want || !reflect.DeepEqual(plain(x), api.Ceils{}) {
		t.Errorf("%q: Reckon: %s %d, not %d: %s", what, short(x), e, want, short(c))
	}
	for _, id := range []int{0, 1, -1, len(c.Resources) - 1, len(c.Resources), len(c.Tasks)} {
		if l, e := ceil.Group(c, id); e != want || len(l) != 0 {
			t.Errorf("%q: Group(%d): %s %d, not %d: %s", what, id, short(l), e, want, short(c))
		}
		if a, b, e := ceil.Users(c, id); e != want || len(a)+len(b) != 0 {
			t.Errorf("%q: Users(%d): %s %s %d, not %d: %s", what, id, short(a), short(b), e, want, short(c))
		}
		for _, other := range []int{0, 1, -1, len(c.Tasks)} {
			if l, e := ceil.Blocks(c, id, other); e != want || len(l) != 0 {
				t.Errorf("%q: Blocks(%d, %d): %s %d, not %d: %s", what, id, other, short(l), e, want, short(c))
			}
		}
	}
}

// reckoned is what Reckon tells of a configuration that it must take.
func reckoned(t *testing.T, what string, c api.Config) api.Ceils {
	t.Helper()
	x, e := ceil.Reckon(c)
	if e != api.OK || ceil.Check(c) != api.OK {
		t.Errorf("%q: Reckon: %d, Check: %d: %s", what, e, ceil.Check(c), short(c))
	}
	return x
}

// reckons holds what Reckon tells against what it must tell.
func reckons(t *testing.T, what string, c api.Config, want api.Ceils) {
	t.Helper()
	if x := reckoned(t, what, c); !reflect.DeepEqual(plain(x), plain(want)) {
		t.Errorf("%q: Reckon: %s, not %s: %s", what, short(x), short(want), short(c))
	}
}

func groups(t *testing.T, what string, c api.Config, id int, want ...int) {
	t.Helper()
	if l, e := ceil.Group(c, id); e != api.OK || !slices.Equal(l, want) {
		t.Errorf("%q: Group(%d): %s %d, not %s: %s", what, id, short(l), e, short(want), short(c))
	}
}

func used(t *testing.T, what string, c api.Config, id int, tasks, isrs []int) {
	t.Helper()
	if a, b, e := ceil.Users(c, id); e != api.OK || !slices.Equal(a, tasks) || !slices.Equal(b, isrs) {
		t.Errorf("%q: Users(%d): %s %s %d, not %s %s: %s", what, id, short(a), short(b), e, short(tasks), short(isrs), short(c))
	}
}

func blocks(t *testing.T, what string, c api.Config, low, high int, want ...int) {
	t.Helper()
	if l, e := ceil.Blocks(c, low, high); e != api.OK || !slices.Equal(l, want) {
		t.Errorf("%q: Blocks(%d, %d): %s %d, not %s: %s", what, low, high, short(l), e, short(want), short(c))
	}
}
