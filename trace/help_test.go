package trace_test

import (
	"encoding/hex"
	"fmt"
	"math"
	"reflect"
	"strings"
	"testing"

	"tappet/api"
	"tappet/image"
	"tappet/table"
	"tappet/trace"
)

// beyond are numbers that no width here can hold.
var beyond = []int{-1, -2, -128, -255, -256, -65536, 1 << 32, 1<<32 + 1, 1 << 40, math.MaxInt, math.MinInt, math.MinInt + 1}

// plain is a copy in new memory, in which each empty list is nil.
func plain[T any](x T) T {
	v := reflect.New(reflect.TypeOf(x)).Elem()
	v.Set(copied(reflect.ValueOf(x)))
	return v.Interface().(T)
}

func copied(v reflect.Value) reflect.Value {
	out := reflect.New(v.Type()).Elem()
	switch v.Kind() {
	case reflect.Slice:
		if v.Len() > 0 {
			out = reflect.MakeSlice(v.Type(), v.Len(), v.Len())
		}
		for i := range v.Len() {
			out.Index(i).Set(copied(v.Index(i)))
		}
	case reflect.Struct:
		for i := range v.NumField() {
			out.Field(i).Set(copied(v.Field(i)))
		}
	default:
		out.Set(v)
	}
	return out
}

// alike: nil and empty lists are one.
func alike[T any](a, b T) bool { return reflect.DeepEqual(plain(a), plain(b)) }

// short is what a failing test says of something that may be long.
func short(x any) string {
	s := fmt.Sprintf("%+v", x)
	return fmt.Sprintf("%q", s[:min(len(s), 900)])
}

// unhex reads bytes that are written two digits each, with blanks anywhere.
func unhex(s ...string) []byte {
	b, err := hex.DecodeString(strings.Join(strings.Fields(strings.Join(s, " ")), ""))
	if err != nil {
		panic(err)
	}
	return b
}

// The steps, by short names.
func start(mode int) api.Step { return api.Step{Kind: api.SStart, ID: mode} }
func irq(isr int) api.Step    { return api.Step{Kind: api.SIrq, ID: isr} }
func tick(counter int) api.Step {
	return api.Step{Kind: api.STick, ID: counter}
}
func ret() api.Step { return api.Step{Kind: api.SReturn} }

// call is a call with up to three parameters.
func call(service int, params ...uint32) api.Step {
	s := api.Step{Kind: api.SCall, Service: service}
	for i, p := range []*uint32{&s.A, &s.B, &s.C} {
		if i < len(params) {
			*p = params[i]
		}
	}
	return s
}

// The contexts.
var none api.Frame

func task(id int) api.Frame { return api.Frame{Kind: api.FTask, ID: id} }
func failed(s api.Status, service int, param uint32) api.Frame {
	return api.Frame{Kind: api.FError, Status: s, Service: service, Param: param}
}

// tablesOf are those that the generator makes of a configuration.
func tablesOf(t *testing.T, c api.Config) api.Tables {
	t.Helper()
	x, e := table.Make(c)
	if e != api.OK {
		t.Fatal("Make:", e)
	}
	return x
}

func imageOf(t *testing.T, x api.Tables) []byte {
	t.Helper()
	b, e := image.Encode(x)
	if e != api.OK {
		t.Fatal("image:", e)
	}
	return b
}

func recorded(t *testing.T, x api.Tables, steps []api.Step) api.Trace {
	t.Helper()
	r, e := trace.Record(x, steps)
	if e != api.OK {
		t.Fatal("Record:", e)
	}
	return r
}

// running is a trace of entries behind which these were on top.
func running(l ...api.Frame) api.Trace {
	var r api.Trace
	for _, f := range l {
		r.Entries = append(r.Entries, api.Traced{Answer: api.Answer{Run: f}})
	}
	return r
}

// refusesTrace: Encode answers the error, and nothing beside it.
func refusesTrace(t *testing.T, what string, r api.Trace) {
	t.Helper()
	if b, e := trace.Encode(r); e != api.ErrRecord || len(b) > 0 {
		t.Errorf("%s: Encode: %d, %d bytes: %s", what, e, len(b), short(r))
	}
}

// refuses: Decode answers the error, and nothing beside it.
func refuses(t *testing.T, what string, b []byte) {
	t.Helper()
	if r, e := trace.Decode(b); e != api.ErrRecord || !alike(r, api.Trace{}) {
		t.Errorf("%s: Decode: %d, %s, of %d bytes: % x", what, e, short(r), len(b), b[:min(len(b), 300)])
	}
}
