package trace_test

import (
	"bytes"
	"encoding/binary"
	"slices"
	"testing"

	"tappet/api"
	"tappet/kernel"
	"tappet/trace"
)

// A second reading of the chapter, slow and word by word.

// sumOf is octet's sum reckoned another way: by whole bytes.
func sumOf(b []byte) uint16 {
	sum := uint16(0xffff)
	for _, x := range b {
		sum = sum>>8 | sum<<8
		sum ^= uint16(x)
		sum ^= sum & 0xff >> 4
		sum ^= sum << 12
		sum ^= sum & 0xff << 5
	}
	return sum
}

func TestSumOf(t *testing.T) {
	if sumOf([]byte("123456789")) != 0x29b1 || sumOf(nil) != 0xffff {
		t.Error("the second sum is none")
	}
}

// sealed lays the sum behind what stands ahead of it.
func sealed(ahead []byte) []byte {
	return binary.LittleEndian.AppendUint16(slices.Clone(ahead), sumOf(ahead))
}

// open is what stands ahead of the sum, in new memory.
func open(b []byte) []byte { return slices.Clone(b[:len(b)-2]) }

// scroll is bytes that are written.
type scroll []byte

func (s *scroll) B(v int) { *s = append(*s, byte(v)) }

func (s *scroll) H(v int) { s.B(v); s.B(v >> 8) }

func (s *scroll) W(v uint32) { s.H(int(v)); s.H(int(v >> 16)) }

func (s *scroll) frame(f api.Frame) {
	s.B(int(f.Kind))
	s.H(f.ID)
	s.W(uint32(f.Status))
	s.H(f.Service)
	s.W(f.Param)
}

func (s *scroll) entry(x api.Traced) {
	s.B(int(x.Step.Kind))
	s.H(x.Step.ID)
	s.H(x.Step.Service)
	s.W(x.Step.A)
	s.W(x.Step.B)
	s.W(x.Step.C)
	s.B(int(x.Answer.Status))
	if x.Answer.Idle {
		s.B(1)
	} else {
		s.B(0)
	}
	for _, v := range x.Answer.V {
		s.W(v)
	}
	s.frame(x.Answer.Run)
	s.B(len(x.Answer.Begun))
	for _, f := range x.Answer.Begun {
		s.frame(f)
	}
	s.B(len(x.Answer.Expired))
	for _, id := range x.Answer.Expired {
		s.B(id)
	}
}

// bytesOf are those of a trace; of numbers that are too great the lowest bytes.
func bytesOf(r api.Trace) []byte {
	s := scroll{0x54, 0x50, 0x54, 0x52}
	s.H(int(r.Sum))
	s.W(uint32(len(r.Entries)))
	for _, x := range r.Entries {
		s.entry(x)
	}
	return sealed(s)
}

func within(n, most int) bool { return 0 <= n && n <= most }

func frameCan(f api.Frame) bool {
	return within(int(f.Kind), 255) && within(f.ID, 65535) && within(f.Service, 65535) && within(int(f.Status), 4294967295)
}

// can: an entry can be written.
func can(x api.Traced) bool {
	s, a := x.Step, x.Answer
	if !within(int(s.Kind), 255) || !within(s.ID, 65535) || !within(s.Service, 65535) || !within(int(a.Status), 255) || !frameCan(a.Run) {
		return false
	}
	for _, f := range a.Begun {
		if !frameCan(f) {
			return false
		}
	}
	for _, id := range a.Expired {
		if !within(id, 255) {
			return false
		}
	}
	return len(a.Begun) <= 255 && len(a.Expired) <= 255
}

// strip is bytes that are read; where none are left there are zeros.
type strip []byte

func (s *strip) B() int {
	if len(*s) == 0 {
		return 0
	}
	v := (*s)[0]
	*s = (*s)[1:]
	return int(v)
}

func (s *strip) H() int { v := s.B(); return v + s.B()<<8 }

func (s *strip) W() uint32 { v := s.H(); return uint32(v) + uint32(s.H())<<16 }

func (s *strip) frame() api.Frame {
	var f api.Frame
	f.Kind = api.FrameKind(s.B())
	f.ID = s.H()
	f.Status = api.Status(s.W())
	f.Service = s.H()
	f.Param = s.W()
	return f
}

func (s *strip) entry() api.Traced {
	var x api.Traced
	x.Step.Kind = api.StepKind(s.B())
	x.Step.ID = s.H()
	x.Step.Service = s.H()
	x.Step.A = s.W()
	x.Step.B = s.W()
	x.Step.C = s.W()
	x.Answer.Status = api.Status(s.B())
	x.Answer.Idle = s.B() == 1
	for i := range x.Answer.V {
		x.Answer.V[i] = s.W()
	}
	x.Answer.Run = s.frame()
	for n := s.B(); n > 0; n-- {
		x.Answer.Begun = append(x.Answer.Begun, s.frame())
	}
	for n := s.B(); n > 0; n-- {
		x.Answer.Expired = append(x.Answer.Expired, s.B())
	}
	return x
}

// readingOf is the trace of which Encode gives these bytes, if there is one: what they say is written again, and held against them.
func readingOf(b []byte) (api.Trace, bool) {
	s := strip(b)
	s.W()
	r := api.Trace{Sum: uint16(s.H())}
	for n := s.W(); n > 0 && len(s) > 0; n-- {
		r.Entries = append(r.Entries, s.entry())
	}
	if len(r.Entries) > 65536 || !bytes.Equal(bytesOf(r), b) {
		return api.Trace{}, false
	}
	return r, true
}

// recordOf is what a kernel does, as a trace of this sum.
func recordOf(t *testing.T, x api.Tables, steps []api.Step) api.Trace {
	t.Helper()
	r := api.Trace{Sum: sumOf(imageOf(t, x))}
	k, e := kernel.New(x)
	if e != api.OK {
		t.Fatal("kernel:", e)
	}
	for _, s := range steps {
		r.Entries = append(r.Entries, api.Traced{Step: s, Answer: k.Step(s)})
	}
	return r
}

// stretchesOf looks at each row of entries, whether it is one that can't be longer.
func stretchesOf(r api.Trace) []api.Stretch {
	at := func(i int) api.Frame { return r.Entries[i].Answer.Run }
	var l []api.Stretch
	for from := range r.Entries {
		if from > 0 && at(from-1) == at(from) {
			continue
		}
		to := from
		for to < len(r.Entries) && at(to) == at(from) {
			to++
		}
		l = append(l, api.Stretch{Run: at(from), From: from, To: to})
	}
	return l
}

// usesOf asks each task of each entry.
func usesOf(r api.Trace, tasks int) []api.Use {
	var l []api.Use
	for id := 0; id < tasks && id < 256; id++ {
		var u api.Use
		was := false
		for _, x := range r.Entries {
			f := x.Answer.Run
			is := f.Kind == api.FTask && f.ID == id && f.Status == 0 && f.Service == 0 && f.Param == 0
			if is {
				u.Steps++
			}
			if is && !was {
				u.Starts++
			}
			was = is
		}
		l = append(l, u)
	}
	return l
}

// encodes holds what Encode answers against the second reading, and Decode of it against the trace (P25.5).
func encodes(t *testing.T, what string, r api.Trace) {
	t.Helper()
	if len(r.Entries) > 65536 || slices.ContainsFunc(r.Entries, func(x api.Traced) bool { return !can(x) }) {
		refusesTrace(t, what, r)
		return
	}
	b, e := trace.Encode(r)
	if want := bytesOf(r); e != api.OK || !bytes.Equal(b, want) {
		t.Errorf("%s: Encode: %d, % x, not % x: %s", what, e, b[:min(len(b), 200)], want[:min(len(want), 200)], short(r))
		return
	}
	if s, e := trace.Decode(b); e != api.OK || !alike(s, r) {
		t.Errorf("%s: Decode: %d, %s, not %s", what, e, short(s), short(r))
	}
}

// decodes holds what Decode answers against the second reading, and tells whether there is a trace.
func decodes(t *testing.T, what string, b []byte) bool {
	t.Helper()
	r, is := readingOf(b)
	if !is {
		refuses(t, what, b)
		return false
	}
	if s, e := trace.Decode(b); e != api.OK || !alike(s, r) {
		t.Errorf("%s: Decode: %d, %s, not %s", what, e, short(s), short(r))
	}
	encodes(t, what, r)
	return true
}

// tells holds Stretches and Uses against the second reading.
func tells(t *testing.T, r api.Trace, tasks int) {
	t.Helper()
	if l, want := trace.Stretches(r), stretchesOf(r); !slices.Equal(l, want) {
		t.Errorf("Stretches: %s, not %s", short(l), short(want))
	}
	if l, want := trace.Uses(r, tasks), usesOf(r, tasks); !slices.Equal(l, want) {
		t.Errorf("Uses of %d: %s, not %s", tasks, short(l), short(want))
	}
}
