package image

import (
	"slices"

	"tappet/api"
	"tappet/octet"
)

// cell is a number, and how many bytes it has in an image.
type cell struct {
	value uint64
	width int
}

// whole is what is written as a number.
type whole interface{ ~int | ~uint16 | ~uint32 }

func one[T whole](v T) cell { return cell{uint64(v), 1} }

func two[T whole](v T) cell { return cell{uint64(v), 2} }

func four[T whole](v T) cell { return cell{uint64(v), 4} }

func eight(v uint64) cell { return cell{v, 8} }

func flag(v bool) cell {
	if v {
		return one(1)
	}
	return one(0)
}

// maybe writes -1 as 0, and every other number one greater.
func maybe(v int) cell { return one(v + 1) }

// put lays numbers end to end. Every number of tables that may be fits into its width.
func put(cells ...cell) []byte {
	var out []byte
	for _, c := range cells {
		b, _ := octet.Number(c.value, c.width)
		out = append(out, b...)
	}
	return out
}

func list(l []int) []byte {
	ids := rows(len(l), func(i int) cell { return one(l[i]) })
	return slices.Concat(put(one(len(l))), put(ids...))
}

func action(a api.ActionRow) []byte { return put(one(a.Kind), one(a.Task), four(a.Mask)) }

// piece is a part of an image: its bytes, and of how many rows they are.
type piece struct {
	kind  api.PartKind
	rows  int
	bytes []byte
}

func pieceOf(kind api.PartKind, l ...[]byte) piece {
	return piece{kind, len(l), slices.Concat(l...)}
}

// pieces writes the parts of the image of tables that may be.
func pieces(t api.Tables) []piece {
	w := writer{t}
	l := []piece{
		pieceOf(api.PartTasks, rows(len(t.Tasks), w.task)...),
		pieceOf(api.PartRings, rows(len(t.Rings), w.ring)...),
		pieceOf(api.PartResources, rows(len(t.Resources), w.resource)...),
		pieceOf(api.PartCounters, rows(len(t.Counters), w.counter)...),
		pieceOf(api.PartAlarms, rows(len(t.Alarms), w.alarm)...),
		pieceOf(api.PartIsrs, rows(len(t.Isrs), w.isr)...),
		pieceOf(api.PartMessages, rows(len(t.Messages), w.message)...),
	}
	body := slices.Concat(rows(len(l), func(i int) []byte { return l[i].bytes })...)
	head := w.head(headSize + len(body) + sumSize)
	sum := put(two(octet.Crc(head, body)))
	return slices.Concat([]piece{pieceOf(api.PartHead, head)}, l, []piece{pieceOf(api.PartSum, sum)})
}

// writer writes the rows of tables by their ids.
type writer struct{ t api.Tables }

func (w writer) head(size int) []byte {
	t := w.t
	return slices.Concat([]byte(mark), put(
		four(size),
		two(len(t.Tasks)), two(len(t.Rings)), two(len(t.Resources)), two(len(t.Counters)), two(len(t.Alarms)), two(len(t.Isrs)), two(len(t.Messages)),
		one(t.Uses), one(t.Modes), one(t.Depth), one(t.Frames), one(t.Errors), one(t.Callbacks),
	))
}

func (w writer) task(id int) []byte {
	x := w.t.Tasks[id]
	ahead := put(one(x.Priority), one(x.Ring), flag(x.Full), one(x.Limit), four(x.Mask), maybe(x.Internal))
	return slices.Concat(ahead, list(x.Own), put(one(x.Auto)))
}

func (w writer) ring(id int) []byte {
	x := w.t.Rings[id]
	return put(one(x.Priority), two(x.Capacity))
}

func (w writer) resource(id int) []byte {
	x := w.t.Resources[id]
	return put(flag(x.Internal), maybe(x.Ceiling))
}

func (w writer) counter(id int) []byte {
	x := w.t.Counters[id]
	return put(four(x.Max), four(x.Base), four(x.Min))
}

func (w writer) alarm(id int) []byte {
	x := w.t.Alarms[id]
	return slices.Concat(put(one(x.Counter)), action(x.Action), put(one(x.Auto), four(x.Time), four(x.Cycle)))
}

func (w writer) isr(id int) []byte {
	x := w.t.Isrs[id]
	return slices.Concat(put(one(x.Category), one(x.Priority)), list(x.Own))
}

func (w writer) message(id int) []byte {
	x := w.t.Messages[id]
	return slices.Concat(put(one(x.Kind), one(x.Length), one(x.From), eight(x.Init), one(x.Queue)), action(x.Action))
}
