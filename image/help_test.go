package image_test

import (
	"bytes"
	"encoding/binary"
	"encoding/hex"
	"fmt"
	"reflect"
	"slices"
	"strings"
	"testing"

	"tappet/api"
	"tappet/image"
)

// chance is a row of numbers that is the same in every run.
type chance uint64

func (c *chance) below(n int) int {
	*c = *c*6364136223846793005 + 1442695040888963407
	return int((uint64(*c) >> 33) % uint64(n))
}

func pick[T any](c *chance, l ...T) T { return l[c.below(len(l))] }

func shuffle[T any](c *chance, l []T) {
	for i := range l {
		j := i + c.below(len(l)-i)
		l[i], l[j] = l[j], l[i]
	}
}

// plain is a copy in new memory, in which each empty list is nil.
func plain[T any](x T) T {
	v := reflect.New(reflect.TypeOf(x)).Elem()
	v.Set(copied(reflect.ValueOf(x)))
	return v.Interface().(T)
}

func copied(v reflect.Value) reflect.Value {
	out := reflect.New(v.Type()).Elem()
	switch v.Kind() {
	case reflect.Slice:
		if v.Len() > 0 {
			out = reflect.MakeSlice(v.Type(), v.Len(), v.Len())
		}
		for i := range v.Len() {
			out.Index(i).Set(copied(v.Index(i)))
		}
	case reflect.Struct:
		for i := range v.NumField() {
			out.Field(i).Set(copied(v.Field(i)))
		}
	default:
		out.Set(v)
	}
	return out
}

// alike: nil and empty lists are one.
func alike[T any](a, b T) bool { return reflect.DeepEqual(plain(a), plain(b)) }

// places are the numbers and bools of a value, those within lists too, and its lists.
func places(v reflect.Value) []reflect.Value {
	var l []reflect.Value
	switch v.Kind() {
	case reflect.Struct:
		for i := range v.NumField() {
			l = append(l, places(v.Field(i))...)
		}
	case reflect.Slice:
		l = append(l, v)
		for i := range v.Len() {
			l = append(l, places(v.Index(i))...)
		}
	default:
		l = append(l, v)
	}
	return l
}

func placesOf(x *api.Tables) []reflect.Value { return places(reflect.ValueOf(x).Elem()) }

// fill makes each list that is nil an empty one.
func fill(x *api.Tables) {
	for _, v := range placesOf(x) {
		if v.Kind() == reflect.Slice && v.Len() == 0 {
			v.Set(reflect.MakeSlice(v.Type(), 0, 0))
		}
	}
}

// short is what a failing test says of something that may be long.
func short(x any) string {
	s := fmt.Sprintf("%+v", x)
	return fmt.Sprintf("%q", s[:min(len(s), 900)])
}

// unhex reads bytes that are written two digits each, with blanks anywhere.
func unhex(s ...string) []byte {
	b, err := hex.DecodeString(strings.Join(strings.Fields(strings.Join(s, " ")), ""))
	if err != nil {
		panic(err)
	}
	return b
}

// seal lays the number of bytes into the head of what stands ahead of a sum, and the sum behind it.
func seal(ahead []byte) []byte {
	b := slices.Clone(ahead)
	binary.LittleEndian.PutUint32(b[4:], uint32(len(b)+2))
	return binary.LittleEndian.AppendUint16(b, sumOf(b))
}

// open is what stands ahead of an image's sum, in new memory.
func open(b []byte) []byte { return slices.Clone(b[:len(b)-2]) }

// encodes holds what Encode gives against bytes.
func encodes(t *testing.T, what string, x api.Tables, want []byte) {
	t.Helper()
	b, e := image.Encode(x)
	if e == api.OK && bytes.Equal(b, want) {
		return
	}
	at := 0
	for at < min(len(b), len(want)) && b[at] == want[at] {
		at++
	}
	t.Errorf("%q: Encode: %d, other bytes from %d on: % x, not % x: %s", what, e, at, b[at:min(at+40, len(b))], want[at:min(at+40, len(want))], short(x))
}

// refusesTables: Encode answers the error, and nothing beside it.
func refusesTables(t *testing.T, what string, x api.Tables) {
	t.Helper()
	if b, e := image.Encode(x); e != api.ErrTables || len(b) > 0 {
		t.Errorf("%q: Encode: %d, %d bytes: %s", what, e, len(b), short(x))
	}
}

// decodes: Decode gives these tables, and Parts where their parts stand.
func decodes(t *testing.T, what string, b []byte, want api.Tables) {
	t.Helper()
	if x, e := image.Decode(b); e != api.OK || !alike(x, want) {
		t.Errorf("%q: Decode: %d %s, not %s", what, e, short(x), short(want))
	}
	if l, e := image.Parts(b); e != api.OK || !alike(l, partsOf(want)) {
		t.Errorf("%q: Parts: %d %s, not %s", what, e, short(l), short(partsOf(want)))
	}
}

// refuses: Decode and Parts answer the error, and nothing beside it.
func refuses(t *testing.T, what string, b []byte, code api.Errno) {
	t.Helper()
	if x, e := image.Decode(b); e != code || !alike(x, api.Tables{}) {
		t.Errorf("%q: Decode: %d, not %d: %s of %d bytes: % x", what, e, code, short(x), len(b), b[:min(len(b), 400)])
	}
	if l, e := image.Parts(b); e != code || len(l) > 0 {
		t.Errorf("%q: Parts: %d, not %d: %s", what, e, code, short(l))
	}
}

// agrees holds Decode and Parts against the second reading of the chapter, whose error it answers.
func agrees(t *testing.T, what string, b []byte) api.Errno {
	t.Helper()
	x, e := readingOf(b)
	if e == api.OK {
		decodes(t, what, b, x)
		encodes(t, what, x, b)
	} else {
		refuses(t, what, b, e)
	}
	return e
}
