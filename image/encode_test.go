package image_test

import (
	"bytes"
	"math"
	"testing"

	"tappet/api"
	"tappet/image"
	"tappet/octet"
	"tappet/table"
)

// smallImage is the image of the chapter's first example, without its sum.
func smallImage() []byte {
	return unhex("54 50 54 31  2c 00 00 00", "01 00 01 00 00 00 00 00 00 00 00 00 00 00", "00 01 01 04 02 00", "01 00 01 01 00 00 00 00 00 00 00", "01 01 00")
}

// wholeImage is the image of the ordinary tables, written by hand, without its sum.
func wholeImage() []byte {
	return unhex(
		"54 50 54 31", "4d 01 00 00", "04 00  03 00  07 00  02 00  04 00  04 00  07 00", "83 03 03 08 03 02",
		"00 02 01 ff  00 00 00 00  01  04 00 01 03 06  05",
		"3e 00 00 01  07 00 00 80  3f  02 01 06  02",
		"07 01 00 01  05 00 00 00  00  00  00",
		"07 01 01 03  00 00 00 00  00  01 06  00",
		"3e 01 00", "07 04 00", "00 ff 00",
		"00 51", "00 51", "01 01", "00 51", "01 3f", "00 00", "00 3f",
		"01 00 00 00  01 00 00 00  01 00 00 00",
		"ff ff ff 7f  fe ff ff 7f  09 00 00 00",
		"00  01 03 00 00 00 00  07  01 00 00 00  01 00 00 00",
		"01  02 02 04 00 00 00  00  00 00 00 00  00 00 00 00",
		"01  03 00 00 00 00 00  04  08 00 00 00  00 00 00 00",
		"01  01 00 00 00 00 00  01  ff ff ff 7f  09 00 00 00",
		"02 41 02 00 03", "01 7e 00", "02 50 01 01", "01 53 00",
		"02 00 04  ff ff ff ff 00 00 00 00  00  04 00 00 00 00 00",
		"01 01 00  00 00 00 00 00 00 00 00  00  00 00 00 00 00 00",
		"03 00 01  00 00 00 00 00 00 00 00  10  02 01 00 00 00 80",
		"02 00 01  ff 00 00 00 00 00 00 00  00  01 03 00 00 00 00",
		"01 08 00  00 00 00 00 00 00 00 00  00  00 00 00 00 00 00",
		"03 00 04  00 00 00 00 00 00 00 00  01  03 00 00 00 00 00",
		"02 00 01  00 00 00 00 00 00 00 00  00  00 00 00 00 00 00",
	)
}

// P10.1, example 1: byte by byte, and back; where the parts stand.
func TestByHand(t *testing.T) {
	b := seal(smallImage())
	if len(b) != 44 || b[4] != 44 {
		t.Fatal("the example has 44 bytes:", len(b))
	}
	encodes(t, "small", small(), b)
	decodes(t, "small", b, small())
	b = seal(wholeImage())
	if len(b) != 0x14d {
		t.Fatal("the ordinary image has other bytes:", len(b))
	}
	encodes(t, "whole", whole(), b)
	decodes(t, "whole", b, whole())
}

// P10.1: the sum is octet's, of all bytes ahead, its lowest byte first.
func TestSum(t *testing.T) {
	for _, x := range []api.Tables{small(), whole(), greatest(), crowded()} {
		b, e := image.Encode(x)
		if e != api.OK || len(b) < 30 {
			t.Fatalf("Encode: %d", e)
		}
		end := len(b) - 2
		if sum := octet.Crc(b[:end]); b[end] != byte(sum) || b[end+1] != byte(sum>>8) {
			t.Errorf("sum % x, not %x", b[end:], sum)
		}
	}
}

// column is tables, and bytes that stand in their image from a place on.
type column struct {
	what string
	turn func(x *api.Tables)
	at   int
	want string
}

// look encodes the ordinary tables, turned, and holds bytes of the image against what must stand there, and all others against the second reading.
func look(t *testing.T, l []column) {
	t.Helper()
	for _, c := range l {
		x := whole()
		c.turn(&x)
		encodes(t, c.what, x, imageOf(x))
		b, _ := image.Encode(x)
		want := unhex(c.want)
		if len(b) < c.at+len(want) || !bytes.Equal(b[c.at:c.at+len(want)], want) {
			t.Errorf("%q: % x, not % x", c.what, b[min(c.at, len(b)):min(c.at+len(want), len(b))], want)
		}
	}
}

// P10.1: the head's columns, one turned at a time.
func TestHeadColumns(t *testing.T) {
	look(t, []column{
		{"no Uses", func(x *api.Tables) { x.Uses = 0 }, 22, "00 03 03 08 03 02"},
		{"Uses", func(x *api.Tables) { x.Uses = 255 }, 22, "ff 03 03 08 03 02"},
		{"Modes", func(x *api.Tables) { x.Modes = 8 }, 22, "83 08 03 08 03 02"},
		{"Frames", func(x *api.Tables) { x.Isrs = nil; mend(x) }, 22, "83 03 03 04 03 02"},
		{"Errors", func(x *api.Tables) { x.Alarms = nil; x.Messages = nil; mend(x) }, 22, "83 03 03 08 02 00"},
		{"counts", func(x *api.Tables) { x.Alarms = nil; x.Counters = nil; mend(x) }, 8, "04 00 03 00 07 00 00 00 00 00 04 00 07 00"},
		{"counts", func(x *api.Tables) { x.Isrs = x.Isrs[:1]; x.Messages = nil; mend(x) }, 8, "04 00 03 00 07 00 02 00 04 00 01 00 00 00"},
		{"the size", func(x *api.Tables) { x.Messages = append(x.Messages, x.Messages[6]); mend(x) }, 4, "5f 01 00 00"},
	})
}

// P10.1: the columns of tasks and rings; the third task of the ordinary tables begins at 56, the rings at 79.
func TestTaskColumns(t *testing.T) {
	task := func(turn func(r *api.TaskRow)) func(x *api.Tables) {
		return func(x *api.Tables) { turn(&x.Tasks[2]); mend(x) }
	}
	look(t, []column{
		{"as it is", func(x *api.Tables) {}, 56, "07 01 00 01  05 00 00 00  00  00  00  07"},
		{"Priority, Ring", task(func(r *api.TaskRow) { r.Priority, r.Ring = 62, 0 }), 56, "3e 00 00 01  05 00 00 00  00  00  00"},
		{"Full", task(func(r *api.TaskRow) { r.Full = true }), 56, "07 01 01 01  05 00 00 00  00  00  00"},
		{"Mask", task(func(r *api.TaskRow) { r.Mask = 0x44332214 }), 56, "07 01 00 01  14 22 33 44  00  00  00"},
		{"every bit of Mask", task(func(r *api.TaskRow) { r.Mask = math.MaxUint32 }), 56, "07 01 00 01  ff ff ff ff  00  00  00"},
		{"Internal", task(func(r *api.TaskRow) { r.Internal = 7 }), 56, "07 01 00 01  05 00 00 00  08  00  00"},
		{"Internal", task(func(r *api.TaskRow) { r.Internal = 126 }), 56, "07 01 00 01  05 00 00 00  7f  00  00"},
		{"Internal", task(func(r *api.TaskRow) { r.Internal = 127 }), 56, "07 01 00 01  05 00 00 00  80  00  00"},
		{"Own", task(func(r *api.TaskRow) { r.Own = []int{3} }), 56, "07 01 00 01  05 00 00 00  00  01 03  00"},
		{"Own", task(func(r *api.TaskRow) { r.Own = []int{0, 1, 3, 6} }), 56, "07 01 00 01  05 00 00 00  00  04 00 01 03 06  00"},
		{"an empty Own", task(func(r *api.TaskRow) { r.Own = []int{} }), 56, "07 01 00 01  05 00 00 00  00  00  00  07"},
		{"Auto", task(func(r *api.TaskRow) { r.Auto = 6 }), 56, "07 01 00 01  05 00 00 00  00  00  06"},
		{"Auto", func(x *api.Tables) { x.Modes, x.Tasks[2].Auto = 8, 255 }, 56, "07 01 00 01  05 00 00 00  00  00  ff"},
		{"Limit", func(x *api.Tables) { x.Tasks[3].Limit = 254; mend(x) }, 67, "07 01 01 fe  00 00 00 00  00  01 06  00  3e 01 00  07 ff 00"},
		{"Limit", func(x *api.Tables) { x.Tasks[3].Limit = 255; mend(x) }, 67, "07 01 01 ff  00 00 00 00  00  01 06  00  3e 01 00  07 00 01"},
		{"Capacity", func(x *api.Tables) { x.Tasks[0].Limit = 2; mend(x) }, 79, "3e 01 00  07 04 00  00 02 00"},
		{"Priority", func(x *api.Tables) {
			x.Tasks[1].Priority, x.Tasks[1].Internal, x.Rings[0].Priority = 63, 63, 63
			x.Resources[6].Ceiling = 63
		}, 79, "3f 01 00  07 04 00  00 ff 00"},
	})
}

// P10.1: the columns of resources and counters; they begin at 88 and 102.
func TestResourceColumns(t *testing.T) {
	look(t, []column{
		{"as it is", func(x *api.Tables) {}, 88, "00 51  00 51  01 01  00 51  01 3f  00 00  00 3f  01"},
		{"Internal", func(x *api.Tables) { x.Resources[5].Internal = true }, 98, "01 00  00 3f"},
		{"Ceiling", func(x *api.Tables) { x.Resources[5].Ceiling = 0 }, 98, "00 01  00 3f"},
		{"Ceiling", func(x *api.Tables) { x.Resources[4].Ceiling = -1 }, 96, "01 00  00 00  00 3f"},
		{"Ceiling", func(x *api.Tables) { x.Resources[5].Ceiling = 126 }, 98, "00 7f  00 3f"},
		{"Ceiling", func(x *api.Tables) { x.Resources[4].Ceiling = 127 }, 96, "01 80  00 00  00 3f"},
		{"Max, Base, Min", func(x *api.Tables) {
			x.Counters[0] = api.CounterRow{Max: 0x44332211, Base: 0x08070605, Min: 0x0c0b0a09}
			x.Alarms[0].Cycle = 0
		}, 102,
			"11 22 33 44  05 06 07 08  09 0a 0b 0c  ff ff ff 7f  fe ff ff 7f  09 00 00 00"},
		{"the greatest", func(x *api.Tables) {
			x.Counters[0] = api.CounterRow{Max: api.MaxTick, Base: api.MaxTick, Min: api.MaxTick}
			x.Alarms[0].Cycle = 0
		}, 102,
			"ff ff ff 7f  ff ff ff 7f  ff ff ff 7f"},
	})
}

// P10.1: the columns of alarms and ISRs, and actions; they begin at 126 and 190.
func TestAlarmColumns(t *testing.T) {
	look(t, []column{
		{"as it is", func(x *api.Tables) {}, 142, "01  02 02 04 00 00 00  00  00 00 00 00  00 00 00 00"},
		{"Counter", func(x *api.Tables) { x.Alarms[1].Counter = 0; mend(x) }, 142, "00  02 02 04 00 00 00  00  00 00 00 00  00 00 00 00"},
		{"Task", func(x *api.Tables) { x.Alarms[1].Action = api.ActionRow{Kind: 1, Task: 1} }, 142, "01  01 01 00 00 00 00  00  00 00 00 00  00 00 00 00"},
		{"Mask", func(x *api.Tables) { x.Tasks[2].Mask = math.MaxUint32; x.Alarms[1].Action.Mask = 0x44332211 }, 142, "01  02 02 11 22 33 44  00  00 00 00 00  00 00 00 00"},
		{"a callback", func(x *api.Tables) { x.Alarms[1].Action = api.ActionRow{Kind: 3}; mend(x) }, 142, "01  03 00 00 00 00 00  00  00 00 00 00  00 00 00 00"},
		{"Auto, Time, Cycle", func(x *api.Tables) { x.Alarms[1].Auto, x.Alarms[1].Time, x.Alarms[1].Cycle = 6, 0x44332211, 0x08070605 }, 142, "01  02 02 04 00 00 00  06  11 22 33 44  05 06 07 08"},
		{"Auto", func(x *api.Tables) { x.Modes, x.Alarms[1].Auto, x.Alarms[1].Time = 8, 255, 0x01000000 }, 142, "01  02 02 04 00 00 00  ff  00 00 00 01  00 00 00 00"},
		{"ISRs", func(x *api.Tables) {}, 190, "02 41 02 00 03  01 7e 00  02 50 01 01  01 53 00"},
		{"Category", func(x *api.Tables) { x.Isrs[3].Category = 2; x.Isrs[3].Priority = 64 }, 202, "02 40 00"},
		{"Priority", func(x *api.Tables) { x.Isrs[3].Priority = 127 }, 202, "01 7f 00"},
		{"no Own", func(x *api.Tables) { x.Isrs[0].Own = nil }, 190, "02 41 00  01 7e 00"},
		{"an empty Own", func(x *api.Tables) { x.Isrs[0].Own = []int{} }, 190, "02 41 00  01 7e 00"},
		{"Own", func(x *api.Tables) { x.Isrs[0].Own = []int{0, 1, 3} }, 190, "02 41 03 00 01 03  01 7e 00"},
	})
}

// P10.1: the columns of messages, and actions; they begin at 205, the sixth of them at 295.
func TestMessageColumns(t *testing.T) {
	received := func(turn func(r *api.MessageRow)) func(x *api.Tables) {
		return func(x *api.Tables) { turn(&x.Messages[5]); mend(x) }
	}
	unqueued := func(init uint64) func(x *api.Tables) {
		return received(func(r *api.MessageRow) { r.Kind, r.Queue, r.Init = 2, 0, init })
	}
	look(t, []column{
		{"as it is", func(x *api.Tables) {}, 295, "03 00 04  00 00 00 00 00 00 00 00  01  03 00 00 00 00 00"},
		{"Init", unqueued(0x44332211), 295, "02 00 04  11 22 33 44 00 00 00 00  00  03 00 00 00 00 00"},
		{"Init", unqueued(math.MaxUint32), 295, "02 00 04  ff ff ff ff 00 00 00 00  00  03 00 00 00 00 00"},
		{"Init", unqueued(0), 295, "02 00 04  00 00 00 00 00 00 00 00  00  03 00 00 00 00 00"},
		{"From", received(func(r *api.MessageRow) { r.From = 1 }), 295, "03 00 01  00 00 00 00 00 00 00 00  01  03 00 00 00 00 00"},
		{"Queue", received(func(r *api.MessageRow) { r.Queue = 16 }), 295, "03 00 04  00 00 00 00 00 00 00 00  10  03 00 00 00 00 00"},
		{"nothing", received(func(r *api.MessageRow) { r.Action = api.ActionRow{} }), 295, "03 00 04  00 00 00 00 00 00 00 00  01  00 00 00 00 00 00"},
		{"a task", received(func(r *api.MessageRow) { r.Action = api.ActionRow{Kind: 1, Task: 2} }), 295, "03 00 04  00 00 00 00 00 00 00 00  01  01 02 00 00 00 00"},
		{"an event", received(func(r *api.MessageRow) { r.Action = api.ActionRow{Kind: 2, Task: 1, Mask: 0x80000006} }), 295, "03 00 04  00 00 00 00 00 00 00 00  01  02 01 06 00 00 80"},
		{"a flag", received(func(r *api.MessageRow) { r.Action = api.ActionRow{Kind: 4} }), 295, "03 00 04  00 00 00 00 00 00 00 00  01  04 00 00 00 00 00"},
		{"sent", func(x *api.Tables) { x.Messages[6] = api.MessageRow{Kind: 1, Length: 2}; mend(x) }, 313, "01 02 00  00 00 00 00 00 00 00 00  00  00 00 00 00 00 00"},
		{"sent", func(x *api.Tables) { x.Messages[6] = api.MessageRow{Kind: 1, Length: 4}; mend(x) }, 313, "01 04 00  00 00 00 00 00 00 00 00  00  00 00 00 00 00 00"},
	})
}

// P10.1: as many rows as may be, with the greatest numbers of every width.
func TestGreatest(t *testing.T) {
	x := greatest()
	b := imageOf(x)
	encodes(t, "greatest", x, b)
	decodes(t, "greatest", b, x)
	const size = 28 + 256*(11+65) + 64*3 + 65*2 + 16*12 + 64*16 + 32*(3+65) + 64*18 + 2
	if len(b) != size || !bytes.Equal(b[4:8], []byte{size & 255, size >> 8 & 255, size >> 16, 0}) {
		t.Errorf("%d bytes, not %d: % x", len(b), size, b[4:8])
	}
	if head := unhex("00 01  40 00  41 00  10 00  40 00  20 00  40 00", "ff 08 40 24 40 7e"); !bytes.Equal(b[8:28], head) {
		t.Errorf("head % x, not % x", b[8:28], head)
	}
	last := 28 + 255*76
	if row := b[last : last+76]; !bytes.Equal(row[:11], unhex("3f 00 01 01  ff ff ff ff  80  41 00")) || !bytes.Equal(row[73:], []byte{63, 64, 255}) {
		t.Errorf("the last task: % x", row)
	}
	if first := b[28 : 28+11]; !bytes.Equal(first, unhex("00 3f 01 ff  00 00 00 00  80  41 00")) {
		t.Errorf("the first task: % x", first)
	}
	x = crowded()
	encodes(t, "crowded", x, imageOf(x))
	decodes(t, "crowded", imageOf(x), x)
	b, _ = image.Encode(x)
	if ring := b[len(b)-5 : len(b)-2]; !bytes.Equal(ring, unhex("01 00 ff")) {
		t.Errorf("the greatest ring: % x", ring)
	}
}

// P10.1: tables that may not be.
func TestRefusedTables(t *testing.T) {
	refusesTables(t, "none", api.Tables{})
	for what, turn := range map[string]func(x *api.Tables){
		"Uses":      func(x *api.Tables) { x.Uses = 256 },
		"Modes":     func(x *api.Tables) { x.Modes = 9 },
		"Depth":     func(x *api.Tables) { x.Depth++ },
		"Frames":    func(x *api.Tables) { x.Frames-- },
		"Errors":    func(x *api.Tables) { x.Errors++ },
		"Callbacks": func(x *api.Tables) { x.Callbacks = 1 },
		"no task":   func(x *api.Tables) { x.Tasks, x.Rings = nil, nil; mend(x) },
		"Ring":      func(x *api.Tables) { x.Tasks[3].Ring = 0 },
		"Limit":     func(x *api.Tables) { x.Tasks[3].Limit = 256; mend(x) },
		"Internal":  func(x *api.Tables) { x.Tasks[3].Internal = -2 },
		"Own":       func(x *api.Tables) { x.Tasks[3].Own = []int{2} },
		"Capacity":  func(x *api.Tables) { x.Rings[1].Capacity = 1 << 16 },
		"Ceiling":   func(x *api.Tables) { x.Resources[5].Ceiling = 128 },
		"Max":       func(x *api.Tables) { x.Counters[1].Max = 1 << 31 },
		"Counter":   func(x *api.Tables) { x.Alarms[1].Counter = 2 },
		"Action":    func(x *api.Tables) { x.Alarms[1].Action.Kind = 4 },
		"Category":  func(x *api.Tables) { x.Isrs[1].Category = 0 },
		"Init":      func(x *api.Tables) { x.Messages[0].Init = 1 << 32 },
	} {
		x := whole()
		turn(&x)
		refusesTables(t, what, x)
	}
}

// P10.1: every place of tables, with values at the edges there, the rest made right again or not: there is an image just of those that Check takes.
func TestEncodeOfEveryPlace(t *testing.T) {
	met := map[api.Errno]int{}
	for i, v := range placesOf(ref(whole())) {
		for n := range turns(v) {
			for _, mended := range []bool{false, true} {
				x := whole()
				turn(placesOf(&x)[i], n)
				if mended {
					mend(&x)
				}
				e := table.Check(x)
				met[e]++
				if e == api.OK {
					encodes(t, "turned", x, imageOf(x))
					decodes(t, "turned", imageOf(x), x)
				} else {
					refusesTables(t, "turned", x)
				}
			}
		}
	}
	if met[api.OK] < 300 || met[api.ErrTables] < 3000 {
		t.Errorf("met %v", met)
	}
}

func ref[T any](x T) *T { return &x }
