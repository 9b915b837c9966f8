package image_test

import (
	"encoding/binary"
	"testing"

	"tappet/api"
	"tappet/table"
)

// A second reading of the chapter, slow and word by word.

// sumOf is octet's sum reckoned another way: by whole bytes.
func sumOf(b []byte) uint16 {
	sum := uint16(0xffff)
	for _, x := range b {
		sum = sum>>8 | sum<<8
		sum ^= uint16(x)
		sum ^= sum & 0xff >> 4
		sum ^= sum << 12
		sum ^= sum & 0xff << 5
	}
	return sum
}

func TestSumOf(t *testing.T) {
	if sumOf([]byte("123456789")) != 0x29b1 || sumOf(nil) != 0xffff {
		t.Error("the second sum is none")
	}
}

// scroll is bytes that are written.
type scroll []byte

func (s *scroll) B(v int) { *s = append(*s, byte(v)) }

func (s *scroll) H(v int) { s.B(v); s.B(v >> 8) }

func (s *scroll) W(v uint32) { s.H(int(v)); s.H(int(v >> 16)) }

func (s *scroll) D(v uint64) { s.W(uint32(v)); s.W(uint32(v >> 32)) }

func (s *scroll) flag(v bool) {
	if v {
		s.B(1)
	} else {
		s.B(0)
	}
}

func (s *scroll) maybe(v int) {
	if v == -1 {
		s.B(0)
	} else {
		s.B(v + 1)
	}
}

func (s *scroll) list(l []int) {
	s.B(len(l))
	for _, id := range l {
		s.B(id)
	}
}

func (s *scroll) action(a api.ActionRow) { s.B(int(a.Kind)); s.B(a.Task); s.W(a.Mask) }

// imageOf is the image of tables; of numbers that are too great the lowest bytes.
func imageOf(x api.Tables) []byte {
	var s scroll
	s = append(s, 0x54, 0x50, 0x54, 0x31)
	s.W(0)
	for _, n := range countsOf(x) {
		s.H(n)
	}
	for _, v := range []int{x.Uses, x.Modes, x.Depth, x.Frames, x.Errors, x.Callbacks} {
		s.B(v)
	}
	for _, r := range x.Tasks {
		s.B(r.Priority)
		s.B(r.Ring)
		s.flag(r.Full)
		s.B(r.Limit)
		s.W(r.Mask)
		s.maybe(r.Internal)
		s.list(r.Own)
		s.B(int(r.Auto))
	}
	for _, r := range x.Rings {
		s.B(r.Priority)
		s.H(r.Capacity)
	}
	s.behindRings(x)
	return seal(s)
}

func (s *scroll) behindRings(x api.Tables) {
	for _, r := range x.Resources {
		s.flag(r.Internal)
		s.maybe(r.Ceiling)
	}
	for _, r := range x.Counters {
		s.W(r.Max)
		s.W(r.Base)
		s.W(r.Min)
	}
	for _, r := range x.Alarms {
		s.B(r.Counter)
		s.action(r.Action)
		s.B(int(r.Auto))
		s.W(r.Time)
		s.W(r.Cycle)
	}
	for _, r := range x.Isrs {
		s.B(r.Category)
		s.B(r.Priority)
		s.list(r.Own)
	}
	for _, r := range x.Messages {
		s.B(int(r.Kind))
		s.B(r.Length)
		s.B(r.From)
		s.D(r.Init)
		s.B(r.Queue)
		s.action(r.Action)
	}
}

// countsOf is how many rows there are in each of the seven parts between the head and the sum.
func countsOf(x api.Tables) []int {
	return []int{len(x.Tasks), len(x.Rings), len(x.Resources), len(x.Counters), len(x.Alarms), len(x.Isrs), len(x.Messages)}
}

// span is where a row of one of the seven parts lies in an image; flag is where its flag does (-1: it has none).
type span struct{ part, from, to, flag int }

// spansOf are the rows of the image of tables.
func spansOf(x api.Tables) []span {
	var l []span
	at := 28
	for part, n := range countsOf(x) {
		for id := range n {
			s := span{part, at, at + []int{11, 3, 2, 12, 16, 3, 18}[part], -1}
			switch part {
			case 0:
				s.to += len(x.Tasks[id].Own)
				s.flag = at + 2
			case 2:
				s.flag = at
			case 5:
				s.to += len(x.Isrs[id].Own)
			}
			l = append(l, s)
			at = s.to
		}
	}
	return l
}

// partsOf are the parts of the image of tables.
func partsOf(x api.Tables) []api.Part {
	l := []api.Part{{Kind: 1, Off: 0, Len: 28, Rows: 1}}
	at := 28
	for part, n := range countsOf(x) {
		p := api.Part{Kind: api.PartKind(part + 2), Off: at, Rows: n}
		for _, s := range spansOf(x) {
			if s.part == part {
				p.Len += s.to - s.from
			}
		}
		at += p.Len
		l = append(l, p)
	}
	return append(l, api.Part{Kind: 9, Off: at, Len: 2, Rows: 1})
}

// readingOf is what Decode must answer.
func readingOf(b []byte) (api.Tables, api.Errno) {
	if len(b) < 4 || b[0] != 0x54 || b[1] != 0x50 || b[2] != 0x54 || b[3] != 0x31 {
		return api.Tables{}, 100
	}
	if len(b) < 30 || int(binary.LittleEndian.Uint32(b[4:])) != len(b) {
		return api.Tables{}, 101
	}
	end := len(b) - 2
	if binary.LittleEndian.Uint16(b[end:]) != sumOf(b[:end]) {
		return api.Tables{}, 102
	}
	x := api.Tables{Uses: int(b[22]), Modes: int(b[23]), Depth: int(b[24]), Frames: int(b[25]), Errors: int(b[26]), Callbacks: int(b[27])}
	at := 28
	for part := range 7 {
		for range binary.LittleEndian.Uint16(b[8+2*part:]) {
			size := rowSize(part, b[at:end])
			if at+size > end {
				return api.Tables{}, 101
			}
			row := b[at : at+size]
			if part == 0 && row[2] > 1 || part == 2 && row[0] > 1 {
				return api.Tables{}, 103
			}
			addRow(&x, part, row)
			at += size
		}
	}
	if at < end {
		return api.Tables{}, 101
	}
	if table.Check(x) != api.OK {
		return api.Tables{}, 90
	}
	return x, api.OK
}

// rowSize is how many bytes a row has that begins here, at least; more than are there, if they are too few to tell.
func rowSize(part int, rest []byte) int {
	size := []int{11, 3, 2, 12, 16, 3, 18}[part]
	count := []int{9, -1, -1, -1, -1, 2, -1}[part]
	if count >= 0 && count < len(rest) {
		size += int(rest[count])
	}
	return size
}

func addRow(x *api.Tables, part int, r []byte) {
	w := func(at int) uint32 { return binary.LittleEndian.Uint32(r[at:]) }
	act := func(at int) api.ActionRow {
		return api.ActionRow{Kind: api.ActionKind(r[at]), Task: int(r[at+1]), Mask: w(at + 2)}
	}
	switch part {
	case 0:
		x.Tasks = append(x.Tasks, api.TaskRow{Priority: int(r[0]), Ring: int(r[1]), Full: r[2] == 1, Limit: int(r[3]), Mask: w(4), Internal: int(r[8]) - 1, Own: ids(r[10 : len(r)-1]), Auto: uint32(r[len(r)-1])})
	case 1:
		x.Rings = append(x.Rings, api.RingRow{Priority: int(r[0]), Capacity: int(binary.LittleEndian.Uint16(r[1:]))})
	case 2:
		x.Resources = append(x.Resources, api.ResourceRow{Internal: r[0] == 1, Ceiling: int(r[1]) - 1})
	case 3:
		x.Counters = append(x.Counters, api.CounterRow{Max: w(0), Base: w(4), Min: w(8)})
	case 4:
		x.Alarms = append(x.Alarms, api.AlarmRow{Counter: int(r[0]), Action: act(1), Auto: uint32(r[7]), Time: w(8), Cycle: w(12)})
	case 5:
		x.Isrs = append(x.Isrs, api.IsrRow{Category: int(r[0]), Priority: int(r[1]), Own: ids(r[3:])})
	case 6:
		x.Messages = append(x.Messages, api.MessageRow{Kind: api.MessageKind(r[0]), Length: int(r[1]), From: int(r[2]), Init: binary.LittleEndian.Uint64(r[3:]), Queue: int(r[11]), Action: act(12)})
	}
}

func ids(b []byte) []int {
	var l []int
	for _, x := range b {
		l = append(l, int(x))
	}
	return l
}
