package trace

import (
	"bytes"

	"tappet/api"
	"tappet/octet"
)

// gaveUp is what a reader panics with; by this type it is told from a panic that nobody meant.
type gaveUp struct{}

// giveUp leaves the reader, however deep inside it is.
func giveUp() { panic(gaveUp{}) }

// told is the error that tells of a reader that gave up: there is but one.
func told(reason any) api.Errno {
	if _, meant := reason.(gaveUp); !meant {
		panic(reason)
	}
	return api.ErrRecord
}

// readTrace reads a trace, or gives up.
func readTrace(b []byte) api.Trace {
	r := reader{octet.NewReader(inside(b))}
	t := api.Trace{Sum: uint16(r.number(2))}
	count := r.number(4)
	if count > api.MaxSteps {
		giveUp()
	}
	for range count {
		t.Entries = append(t.Entries, r.entry())
	}
	if r.from.End() != api.OK {
		giveUp()
	}
	return t
}

// inside is what stands between the mark and the check sum, which must both be right.
func inside(b []byte) []byte {
	end := len(b) - sumSize
	if end < len(mark) || !bytes.HasPrefix(b, []byte(mark)) || !bytes.Equal(b[end:], sumOf(b[:end])) {
		giveUp()
	}
	return b[len(mark):end]
}

// reader reads numbers, one behind the other, and gives up where there are none left.
type reader struct{ from *octet.Reader }

func (r reader) number(width int) uint64 {
	v, e := r.from.Number(width)
	if e != api.OK {
		giveUp()
	}
	return v
}

func (r reader) one() int { return int(r.number(1)) }

func (r reader) two() int { return int(r.number(2)) }

func (r reader) four() uint32 { return uint32(r.number(4)) }

func (r reader) flag() bool {
	v := r.one()
	if v > 1 {
		giveUp()
	}
	return v == 1
}

func (r reader) entry() api.Traced { return api.Traced{Step: r.step(), Answer: r.answer()} }

func (r reader) step() api.Step {
	return api.Step{Kind: api.StepKind(r.one()), ID: r.two(), Service: r.two(), A: r.four(), B: r.four(), C: r.four()}
}

func (r reader) answer() api.Answer {
	a := api.Answer{Status: api.Status(r.one()), Idle: r.flag(), V: [3]uint32{r.four(), r.four(), r.four()}, Run: r.frame()}
	for range r.one() {
		a.Begun = append(a.Begun, r.frame())
	}
	for range r.one() {
		a.Expired = append(a.Expired, r.one())
	}
	return a
}

func (r reader) frame() api.Frame {
	return api.Frame{Kind: api.FrameKind(r.one()), ID: r.two(), Status: api.Status(r.four()), Service: r.two(), Param: r.four()}
}
