package image

import (
	"bytes"

	"tappet/api"
	"tappet/octet"
)

// outside looks at what is around the rows: the mark, the size, the sum.
func outside(b []byte) api.Errno {
	if !bytes.HasPrefix(b, []byte(mark)) {
		return api.ErrImage
	}
	if len(b) < headSize+sumSize || number(b[len(mark):sizeEnd]) != uint64(len(b)) {
		return api.ErrCut
	}
	end := len(b) - sumSize
	if number(b[end:]) != uint64(octet.Crc(b[:end])) {
		return api.ErrSum
	}
	return api.OK
}

// number is what bytes are worth, all of them together.
func number(b []byte) uint64 {
	v, _ := octet.NewReader(b).Number(len(b))
	return v
}

// gaveUp is what a reader panics with; by this type it is told from a panic that nobody meant.
type gaveUp struct{ code api.Errno }

// giveUp leaves the reader, however deep inside it is.
func giveUp(code api.Errno) { panic(gaveUp{code}) }

// reason tells why a reader gave up.
func reason(r any) api.Errno {
	if g, ok := r.(gaveUp); ok {
		return g.code
	}
	panic(r)
}

// reader reads what stands between the size and the sum. Its rows come one behind the other, so that it has no use for their ids.
type reader struct{ from *octet.Reader }

// readTables reads the tables of bytes that are right outside; whether they may be is not asked.
func readTables(b []byte) api.Tables {
	r := reader{octet.NewReader(b[sizeEnd : len(b)-sumSize])}
	tasks, rings, resources, counters, alarms, isrs, messages := r.two(), r.two(), r.two(), r.two(), r.two(), r.two(), r.two()
	t := api.Tables{Uses: r.one(), Modes: r.one(), Depth: r.one(), Frames: r.one(), Errors: r.one(), Callbacks: r.one()}
	t.Tasks = rows(tasks, r.task)
	t.Rings = rows(rings, r.ring)
	t.Resources = rows(resources, r.resource)
	t.Counters = rows(counters, r.counter)
	t.Alarms = rows(alarms, r.alarm)
	t.Isrs = rows(isrs, r.isr)
	t.Messages = rows(messages, r.message)
	if r.from.Left() > 0 {
		giveUp(api.ErrCut)
	}
	return t
}

func (r reader) number(width int) uint64 {
	v, e := r.from.Number(width)
	if e != api.OK {
		giveUp(api.ErrCut)
	}
	return v
}

func (r reader) one() int { return int(r.number(1)) }

func (r reader) two() int { return int(r.number(2)) }

func (r reader) four() uint32 { return uint32(r.number(4)) }

func (r reader) maybe() int { return r.one() - 1 }

func (r reader) list() []int { return rows(r.one(), func(int) int { return r.one() }) }

func (r reader) action() api.ActionRow {
	return api.ActionRow{Kind: api.ActionKind(r.one()), Task: r.one(), Mask: r.four()}
}

// isSet tells what a flag says. It is asked behind the last byte of a row: that bytes are missing there is told first.
func isSet(flag int) bool {
	if flag > 1 {
		giveUp(api.ErrForm)
	}
	return flag == 1
}

func (r reader) task(int) api.TaskRow {
	x := api.TaskRow{Priority: r.one(), Ring: r.one()}
	full := r.one()
	x.Limit, x.Mask, x.Internal, x.Own, x.Auto = r.one(), r.four(), r.maybe(), r.list(), uint32(r.one())
	x.Full = isSet(full)
	return x
}

func (r reader) ring(int) api.RingRow { return api.RingRow{Priority: r.one(), Capacity: r.two()} }

func (r reader) resource(int) api.ResourceRow {
	internal, ceiling := r.one(), r.maybe()
	return api.ResourceRow{Internal: isSet(internal), Ceiling: ceiling}
}

func (r reader) counter(int) api.CounterRow {
	return api.CounterRow{Max: r.four(), Base: r.four(), Min: r.four()}
}

func (r reader) alarm(int) api.AlarmRow {
	return api.AlarmRow{Counter: r.one(), Action: r.action(), Auto: uint32(r.one()), Time: r.four(), Cycle: r.four()}
}

func (r reader) isr(int) api.IsrRow {
	return api.IsrRow{Category: r.one(), Priority: r.one(), Own: r.list()}
}

func (r reader) message(int) api.MessageRow {
	return api.MessageRow{Kind: api.MessageKind(r.one()), Length: r.one(), From: r.one(), Init: r.number(8), Queue: r.one(), Action: r.action()}
}
