package trace

import (
	"tappet/api"
	"tappet/octet"
)

const (
	mark    = "TPTR" // the first bytes of every trace
	sumSize = 2
)

// cell is a number, and in how many bytes it is laid down.
type cell struct {
	value uint64
	width int
}

// whole is what is laid down as a number. One below 0 becomes so great a cell that it fits into none of the widths.
type whole interface{ ~int | ~uint16 | ~uint32 }

func one[T whole](v T) cell { return cell{uint64(v), 1} }

func two[T whole](v T) cell { return cell{uint64(v), 2} }

func four[T whole](v T) cell { return cell{uint64(v), 4} }

func flag(v bool) cell {
	if v {
		return one(1)
	}
	return one(0)
}

// put lays numbers end to end; false: one does not fit into its width.
func put(cells ...cell) ([]byte, bool) {
	var out []byte
	for _, c := range cells {
		b, e := octet.Number(c.value, c.width)
		if e != api.OK {
			return nil, false
		}
		out = append(out, b...)
	}
	return out, true
}

// head is what stands between the mark and the entries, of a trace that has no more than may be.
func head(r api.Trace) []byte {
	b, _ := put(two(r.Sum), four(len(r.Entries)))
	return b
}

// sumOf is what stands behind all other bytes.
func sumOf(ahead []byte) []byte {
	b, _ := put(two(octet.Crc(ahead)))
	return b
}

// entry lays a step with its answer down; false: it can't be written, which is so just if a number of it does not fit.
func entry(x api.Traced) ([]byte, bool) {
	s, a := x.Step, x.Answer
	cells := []cell{
		one(s.Kind), two(s.ID), two(s.Service), four(s.A), four(s.B), four(s.C),
		one(a.Status), flag(a.Idle), four(a.V[0]), four(a.V[1]), four(a.V[2]),
	}
	cells = append(cells, frame(a.Run)...)
	cells = append(cells, one(len(a.Begun)))
	for _, f := range a.Begun {
		cells = append(cells, frame(f)...)
	}
	cells = append(cells, one(len(a.Expired)))
	for _, id := range a.Expired {
		cells = append(cells, one(id))
	}
	return put(cells...)
}

func frame(f api.Frame) []cell {
	return []cell{one(f.Kind), two(f.ID), four(f.Status), two(f.Service), four(f.Param)}
}
