package trace_test

import (
	"bytes"
	"math"
	"testing"

	"tappet/api"
	"tappet/trace"
)

// whole is a trace in which each number is another one, with lists of several.
func whole() api.Trace {
	return api.Trace{Sum: 0x0201, Entries: []api.Traced{
		{
			Step: api.Step{Kind: 3, ID: 0x0504, Service: 0x0706, A: 0x0b0a0908, B: 0x0f0e0d0c, C: 0x13121110},
			Answer: api.Answer{
				Status: 0x14, Idle: true, V: [3]uint32{0x18171615, 0x1c1b1a19, 0x201f1e1d},
				Run: api.Frame{Kind: 0x21, ID: 0x2322, Status: 0x27262524, Service: 0x2928, Param: 0x2d2c2b2a},
				Begun: []api.Frame{
					{Kind: 0x2e, ID: 0x302f, Status: 0x34333231, Service: 0x3635, Param: 0x3a393837},
					{Kind: 0x3b, ID: 0x3d3c, Status: 0x41403f3e, Service: 0x4342, Param: 0x47464544},
				},
				Expired: []int{0x48, 0x49, 0x4a},
			},
		},
		{Step: api.Step{Kind: 5, ID: 1}, Answer: api.Answer{Expired: []int{0}}},
		{},
	}}
}

// wholeBytes are its bytes, ahead of the sum.
func wholeBytes() []byte {
	return unhex(
		"54 50 54 52", "01 02", "03 00 00 00",
		"03 04 05 06 07 08 09 0a 0b 0c 0d 0e 0f 10 11 12 13", "14 01 15 16 17 18 19 1a 1b 1c 1d 1e 1f 20", "21 22 23 24 25 26 27 28 29 2a 2b 2c 2d",
		"02", "2e 2f 30 31 32 33 34 35 36 37 38 39 3a", "3b 3c 3d 3e 3f 40 41 42 43 44 45 46 47", "03 48 49 4a",
		"05 01 00 00 00 00 00 00 00 00 00 00 00 00 00 00 00", "00 00 00 00 00 00 00 00 00 00 00 00 00 00", "00 00 00 00 00 00 00 00 00 00 00 00 00", "00", "01 00",
		"00 00 00 00 00 00 00 00 00 00 00 00 00 00 00 00 00", "00 00 00 00 00 00 00 00 00 00 00 00 00 00", "00 00 00 00 00 00 00 00 00 00 00 00 00", "00", "00",
	)
}

// P25.2, the bytes: each field where the chapter has it, the lowest byte first.
func TestWholeTrace(t *testing.T) {
	want := sealed(wholeBytes())
	if b, e := trace.Encode(whole()); e != api.OK || !bytes.Equal(b, want) {
		t.Errorf("Encode: %d\n% x, not\n% x", e, b, want)
	}
	if r, e := trace.Decode(want); e != api.OK || !alike(r, whole()) {
		t.Errorf("Decode: %d, %+v", e, r)
	}
	if !bytes.Equal(bytesOf(whole()), want) {
		t.Error("the second reading has other bytes")
	}
}

// field is a number of an entry, and the greatest that can be written.
type field struct {
	what string
	most int
	set  func(x *api.Traced, v int)
}

func frameFields(what string, f func(x *api.Traced) *api.Frame) []field {
	return []field{
		{what + " Kind", 255, func(x *api.Traced, v int) { f(x).Kind = api.FrameKind(v) }},
		{what + " ID", 65535, func(x *api.Traced, v int) { f(x).ID = v }},
		{what + " Status", math.MaxUint32, func(x *api.Traced, v int) { f(x).Status = api.Status(v) }},
		{what + " Service", 65535, func(x *api.Traced, v int) { f(x).Service = v }},
	}
}

// fields are all those that have a bound, of an entry with two frames begun and three alarms expired.
func fields() []field {
	l := []field{
		{"step Kind", 255, func(x *api.Traced, v int) { x.Step.Kind = api.StepKind(v) }},
		{"step ID", 65535, func(x *api.Traced, v int) { x.Step.ID = v }},
		{"step Service", 65535, func(x *api.Traced, v int) { x.Step.Service = v }},
		{"answer Status", 255, func(x *api.Traced, v int) { x.Answer.Status = api.Status(v) }},
	}
	l = append(l, frameFields("Run", func(x *api.Traced) *api.Frame { return &x.Answer.Run })...)
	for i := range 2 {
		l = append(l, frameFields("Begun", func(x *api.Traced) *api.Frame { return &x.Answer.Begun[i] })...)
	}
	for i := range 3 {
		l = append(l, field{"Expired", 255, func(x *api.Traced, v int) { x.Answer.Expired[i] = v }})
	}
	return l
}

// P25.2: each field alone, in the first, the middle and the last entry: from 0 to its greatest it can be written, beyond it can't.
func TestFields(t *testing.T) {
	for _, f := range fields() {
		for at := range 3 {
			r := whole()
			r.Entries[1], r.Entries[2] = plain(r.Entries[0]), plain(r.Entries[0])
			for _, v := range []int{0, 1, 127, 128, 254, 255, f.most >> 1, f.most - 1, f.most} {
				f.set(&r.Entries[at], v)
				if b, e := trace.Encode(r); e != api.OK || !bytes.Equal(b, bytesOf(r)) {
					t.Errorf("%s %d: %d", f.what, v, e)
				}
				encodes(t, f.what, r)
			}
			for _, v := range append([]int{f.most + 1, f.most + 2, 2*f.most + 1, 2*f.most + 2}, beyond...) {
				f.set(&r.Entries[at], v)
				refusesTrace(t, f.what, r)
			}
		}
	}
}

// P25.2: two fields beyond their bounds at once, also such as would be right together.
func TestTwoFields(t *testing.T) {
	all := fields()
	for _, f := range all {
		for _, g := range all {
			r := whole()
			f.set(&r.Entries[0], f.most+1)
			g.set(&r.Entries[0], -1)
			refusesTrace(t, f.what+" and "+g.what, r)
		}
	}
}

// P25.2: parameters and values have all their bits.
func TestWords(t *testing.T) {
	for bit := range 32 {
		for i := range 8 {
			var x api.Traced
			*[]*uint32{&x.Step.A, &x.Step.B, &x.Step.C, &x.Answer.V[0], &x.Answer.V[1], &x.Answer.V[2], &x.Answer.Run.Param, &x.Step.A}[i] = 1 << bit
			if i == 7 {
				x.Answer.Begun = []api.Frame{{Param: 1 << bit}}
			}
			encodes(t, "a bit", api.Trace{Entries: []api.Traced{x}})
		}
	}
	for sum := range 1 << 16 {
		if b, e := trace.Encode(api.Trace{Sum: uint16(sum)}); e != api.OK || b[4] != byte(sum) || b[5] != byte(sum>>8) {
			t.Fatalf("Sum %d: %d, % x", sum, e, b)
		}
	}
}

// P25.2: as many frames begun and alarms expired as can be written, and one more, and many more.
func TestLists(t *testing.T) {
	for _, n := range []int{0, 1, 2, 127, 128, 254, 255, 256, 257, 511, 512, 65535, 65536, 65537} {
		for _, m := range []int{0, 1, 255, 256, 512, 65536} {
			x := api.Traced{Answer: api.Answer{Begun: make([]api.Frame, n), Expired: make([]int, m)}}
			for i := range x.Answer.Begun {
				x.Answer.Begun[i] = task(i % 65536)
			}
			for i := range x.Answer.Expired {
				x.Answer.Expired[i] = i % 256
			}
			_, e := trace.Encode(api.Trace{Entries: []api.Traced{x}})
			if may := n <= 255 && m <= 255; (e == api.OK) != may {
				t.Errorf("%d begun, %d expired: %d", n, m, e)
			}
			encodes(t, "lists", api.Trace{Entries: []api.Traced{{}, x, {}}})
		}
	}
}

// P25.2: as many entries as may be, and one more; so many that can't be written are refused all the same.
func TestManyEntries(t *testing.T) {
	for _, n := range []int{0, 1, 2, 255, 256, 65535, 65536} {
		r := api.Trace{Sum: 5, Entries: make([]api.Traced, n)}
		for i := range r.Entries {
			r.Entries[i].Step.A = uint32(i)
		}
		if b, e := trace.Encode(r); e != api.OK || len(b) != 12+46*n {
			t.Errorf("%d entries: %d, %d bytes", n, e, len(b))
		}
		encodes(t, "entries", r)
		if n > 0 {
			r.Entries[n-1].Step.ID = 65536
			refusesTrace(t, "the last one", r)
		}
	}
	for _, n := range []int{65537, 65538, 131072} {
		refusesTrace(t, "too many", api.Trace{Entries: make([]api.Traced, n)})
	}
	r := api.Trace{Entries: make([]api.Traced, 65537)}
	r.Entries[0].Step.ID = -1
	refusesTrace(t, "too many, and one that can't be written", r)
}

// P25.2, P25.5: traces by chance, as they are and with a number beyond its bound.
func TestTracesByChance(t *testing.T) {
	c := chance(1)
	all := fields()
	for range 4000 {
		r := c.trace(6)
		encodes(t, "by chance", r)
		if len(r.Entries) == 0 {
			continue
		}
		x := &r.Entries[c.below(len(r.Entries))]
		x.Answer.Begun = append(x.Answer.Begun, c.frame(), c.frame())
		x.Answer.Expired = append(x.Answer.Expired, 1, 2, 3)
		f := all[c.below(len(all))]
		f.set(x, c.below(2*f.most+2)-c.below(2))
		encodes(t, "spoilt", r)
		if t.Failed() {
			return
		}
	}
}

// P25.2: an idle answer of all zeros is another than one that is not idle.
func TestIdle(t *testing.T) {
	for _, idle := range []bool{true, false} {
		r := api.Trace{Entries: []api.Traced{{Answer: api.Answer{Idle: idle}}}}
		b, e := trace.Encode(r)
		if e != api.OK || (b[10+17+1] == 1) != idle {
			t.Errorf("Idle %v: %d, % x", idle, e, b)
		}
		encodes(t, "idle", r)
	}
}
