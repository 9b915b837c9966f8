package image_test

import (
	"encoding/binary"
	"slices"
	"strconv"
	"testing"

	"tappet/api"
	"tappet/image"
)

// P10.2, ErrImage: fewer than 4 bytes.
func TestFewBytes(t *testing.T) {
	refuses(t, "nil", nil, api.ErrImage)
	refuses(t, "empty", []byte{}, api.ErrImage)
	b := seal(wholeImage())
	for n := range 4 {
		refuses(t, "cut", b[:n], api.ErrImage)
		refuses(t, "zeros", make([]byte, n), api.ErrImage)
	}
}

// P10.2, ErrImage: the first four bytes are others, whatever is behind them.
func TestOtherMarks(t *testing.T) {
	for i := range 4 {
		for v := range 256 {
			b := wholeImage()
			if b[i] == byte(v) {
				continue
			}
			b[i] = byte(v)
			refuses(t, "a byte of the mark", seal(b), api.ErrImage)
			refuses(t, "the mark and the sum", append(seal(b), 0), api.ErrImage)
			refuses(t, "the mark alone", b[:4], api.ErrImage)
		}
	}
	for _, mark := range []string{"tpt1", "1TPT", "TTP1", "TPT\x00", "\x00\x00\x00\x00", "TPT2", "PTT1"} {
		refuses(t, mark, seal(append([]byte(mark), wholeImage()[4:]...)), api.ErrImage)
	}
}

// P10.2, ErrCut: fewer than 30 bytes, also where size and sum are right; with 30 bytes there are a head and a sum, of no rows.
func TestFewerThanThirty(t *testing.T) {
	b := seal(wholeImage())
	for n := 4; n < 30; n++ {
		refuses(t, "a beginning", b[:n], api.ErrCut)
		if n >= 10 {
			refuses(t, "sealed", seal(b[:n-2]), api.ErrCut)
		}
	}
	head := make([]byte, 28)
	copy(head, "TPT1")
	if len(seal(head)) != 30 {
		t.Fatal("no head")
	}
	refuses(t, "a head and a sum", seal(head), api.ErrTables)
	refuses(t, "a head and a half sum", seal(head)[:29], api.ErrCut)
	refuses(t, "a head and another sum", sumTurned(seal(head), 1), api.ErrSum)
}

// sumTurned lays bits over an image's sum.
func sumTurned(b []byte, bits uint16) []byte {
	b = slices.Clone(b)
	b[len(b)-2] ^= byte(bits)
	b[len(b)-1] ^= byte(bits >> 8)
	return b
}

// sized lays another number of bytes into an image's head, with a right sum.
func sized(b []byte, size uint32) []byte {
	b = open(b)
	binary.LittleEndian.PutUint32(b[4:], size)
	return binary.LittleEndian.AppendUint16(b, sumOf(b))
}

// P10.2, ErrCut: the number of bytes in the head is another.
func TestOtherSizes(t *testing.T) {
	for _, x := range []api.Tables{small(), whole()} {
		b := imageOf(x)
		n := uint32(len(b))
		for _, size := range []uint32{0, 1, 28, 30, n - 30, n - 28, n - 2, n - 1, n + 1, n + 2, n + 256, n << 8, n << 16, n << 24, n + 1<<16, n + 1<<24, n + 1<<31, 1<<32 - 1, -n} {
			if size != n {
				refuses(t, "another size", sized(b, size), api.ErrCut)
				refuses(t, "another size and sum", sumTurned(sized(b, size), 0x8001), api.ErrCut)
			}
		}
		decodes(t, "the size", sized(b, n), x)
		refuses(t, "a byte more", append(slices.Clone(b), 0), api.ErrCut)
		refuses(t, "without its last byte", b[:len(b)-1], api.ErrCut)
	}
}

// P10.2, ErrSum: every other sum.
func TestOtherSums(t *testing.T) {
	b := seal(smallImage())
	for bits := 1; bits < 1<<16; bits++ {
		if x, e := image.Decode(sumTurned(b, uint16(bits))); e != api.ErrSum || !alike(x, api.Tables{}) {
			t.Fatalf("another sum %x: %d", bits, e)
		}
	}
	refuses(t, "another sum", sumTurned(b, 1), api.ErrSum)
	whole := seal(wholeImage())
	for i := 8; i < len(whole); i++ {
		c := slices.Clone(whole)
		c[i] ^= 0x10
		refuses(t, "a byte turned", c, api.ErrSum)
	}
	last := len(whole)
	whole[last-2], whole[last-1] = whole[last-1], whole[last-2]
	refuses(t, "the sum's bytes the other way round", whole, api.ErrSum)
}

// counted lays how many rows a part has into the head of what stands ahead of a sum.
func counted(b []byte, part, n int) []byte {
	b = slices.Clone(b)
	binary.LittleEndian.PutUint16(b[8+2*part:], uint16(n))
	return b
}

// P10.2, ErrCut: a row does not end ahead of the sum, in each part, at each of its bytes; whether rows are to come behind it or not.
func TestCutRows(t *testing.T) {
	b := wholeImage()
	met := map[int]int{}
	for _, s := range spansOf(whole()) {
		for cut := s.from; cut < s.to; cut++ {
			c := slices.Clone(b[:cut])
			refuses(t, "cut in part "+strconv.Itoa(s.part), seal(c), api.ErrCut)
			for behind := s.part + 1; behind < 7; behind++ {
				c = counted(c, behind, 0)
			}
			refuses(t, "cut in the last part "+strconv.Itoa(s.part), seal(c), api.ErrCut)
			met[s.part]++
		}
	}
	if len(met) != 7 {
		t.Errorf("met %v", met)
	}
}

// P10.2, ErrCut: one row more than there is, in each part, where nothing stands behind it.
func TestRowTooMany(t *testing.T) {
	b := wholeImage()
	spans := spansOf(whole())
	for part, n := range countsOf(whole()) {
		var c []byte
		for _, s := range spans {
			if s.part == part {
				c = slices.Clone(b[:s.to])
			}
		}
		for behind := part + 1; behind < 7; behind++ {
			c = counted(c, behind, 0)
		}
		for _, more := range []int{n + 1, n + 2, n + 256, 0xffff} {
			refuses(t, "too many rows", seal(counted(c, part, more)), api.ErrCut)
		}
		for less := range n {
			if e := agrees(t, "too few rows", seal(counted(c, part, less))); e != api.ErrCut {
				t.Errorf("part %d with %d rows: %d", part, less, e)
			}
		}
	}
}

// P10.2, ErrCut: a list that says of more than there is; one that is as long as may be, and is there, is none of that.
func TestLists(t *testing.T) {
	b := wholeImage()
	isrs := counted(b[:spansOf(whole())[23].to], 6, 0)
	last := len(isrs) - 1
	for n := 1; n < 256; n++ {
		c := slices.Clone(isrs)
		c[last] = byte(n)
		refuses(t, "an ISR's list", seal(c), api.ErrCut)
		refuses(t, "an ISR's list, a byte short", seal(append(c, make([]byte, n-1)...)), api.ErrCut)
		refuses(t, "an ISR's list, a byte more", seal(append(c, make([]byte, n+1)...)), api.ErrCut)
		refuses(t, "an ISR's list of zeros", seal(append(c, make([]byte, n)...)), api.ErrTables)
	}
	task := counted(smallImage()[:39], 1, 0)
	for n := 1; n < 256; n++ {
		c := slices.Clone(task)
		c[37] = byte(n)
		refuses(t, "a task's list", seal(c), api.ErrCut)
		refuses(t, "a task's list, a byte short", seal(append(c, make([]byte, n-1)...)), api.ErrCut)
		refuses(t, "a task's list, a byte more", seal(append(c, make([]byte, n+1)...)), api.ErrCut)
		refuses(t, "a task's list of zeros", seal(append(c, make([]byte, n)...)), api.ErrTables)
	}
}

// P10.2, ErrForm: a flag that is neither 0 nor 1, in each row that has one; not told, if the row's bytes are not all there.
func TestFlags(t *testing.T) {
	b := wholeImage()
	met := map[int]int{}
	for _, s := range spansOf(whole()) {
		if s.flag < 0 {
			continue
		}
		met[s.part]++
		for v := range 256 {
			c := slices.Clone(b)
			c[s.flag] = byte(v)
			if v < 2 {
				if e := agrees(t, "a flag", seal(c)); e == api.ErrForm {
					t.Errorf("a flag %d: ErrForm", v)
				}
				continue
			}
			refuses(t, "a flag", seal(c), api.ErrForm)
		}
		for _, v := range []byte{2, 255} {
			c := slices.Clone(b)
			c[s.flag] = v
			for cut := s.flag + 1; cut < s.to; cut++ {
				refuses(t, "a flag in a row that is cut", seal(c[:cut]), api.ErrCut)
			}
			for cut := s.to; cut < len(c); cut++ {
				refuses(t, "a flag ahead of a row that is cut", seal(c[:cut]), api.ErrForm)
			}
		}
	}
	if met[0] != 4 || met[2] != 7 {
		t.Errorf("met %v", met)
	}
}

// P10.2: flags in two rows, of which the second is cut or not.
func TestTwoFlags(t *testing.T) {
	b := wholeImage()
	for _, first := range spansOf(whole()) {
		for _, second := range spansOf(whole()) {
			if first.flag < 0 || second.flag <= first.flag {
				continue
			}
			c := slices.Clone(b)
			c[first.flag], c[second.flag] = 2, 3
			refuses(t, "two flags", seal(c), api.ErrForm)
			refuses(t, "two flags, cut", seal(c[:second.to-1]), api.ErrForm)
		}
	}
}

// P10.2, ErrCut: bytes left behind the last row.
func TestBytesLeft(t *testing.T) {
	for _, b := range [][]byte{smallImage(), wholeImage()} {
		for _, n := range []int{1, 2, 3, 17, 18, 100} {
			refuses(t, "zeros left", seal(append(slices.Clone(b), make([]byte, n)...)), api.ErrCut)
			refuses(t, "bytes left", seal(append(slices.Clone(b), b[:n%len(b)]...)), api.ErrCut)
		}
		// The bytes left are a sum of all ahead of them.
		refuses(t, "a sum left", seal(seal(b)), api.ErrCut)
	}
}

// P10.2, ErrTables: what is there is read, but may not be.
func TestTablesRefused(t *testing.T) {
	for what, turn := range map[string]func(x *api.Tables){
		"Modes":     func(x *api.Tables) { x.Modes = 0 },
		"Depth":     func(x *api.Tables) { x.Depth++ },
		"Frames":    func(x *api.Tables) { x.Frames++ },
		"Errors":    func(x *api.Tables) { x.Errors++ },
		"Callbacks": func(x *api.Tables) { x.Callbacks++ },
		"Priority":  func(x *api.Tables) { x.Tasks[3].Priority = 255 },
		"Ring":      func(x *api.Tables) { x.Tasks[3].Ring = 255 },
		"Limit":     func(x *api.Tables) { x.Tasks[2].Limit = 0; mend(x) },
		"Mask":      func(x *api.Tables) { x.Tasks[3].Mask = 1 << 31 },
		"Internal":  func(x *api.Tables) { x.Tasks[3].Internal = 128 },
		"Own":       func(x *api.Tables) { x.Tasks[3].Own = []int{7} },
		"Auto":      func(x *api.Tables) { x.Tasks[3].Auto = 8 },
		"Capacity":  func(x *api.Tables) { x.Rings[0].Capacity = 257 },
		"Ceiling":   func(x *api.Tables) { x.Resources[5].Ceiling = 254 },
		"Internals": func(x *api.Tables) { x.Resources[6].Internal = true },
		"Max":       func(x *api.Tables) { x.Counters[1].Max = 1 << 31 },
		"Base":      func(x *api.Tables) { x.Counters[1].Base = 1 << 31 },
		"Min":       func(x *api.Tables) { x.Counters[0].Min = 1 << 24 },
		"Counter":   func(x *api.Tables) { x.Alarms[1].Counter = 2 },
		"Time":      func(x *api.Tables) { x.Alarms[1].Time = 1 << 24 },
		"Cycle":     func(x *api.Tables) { x.Alarms[1].Cycle = 1 << 24 },
		"action":    func(x *api.Tables) { x.Alarms[2].Action.Mask = 1 << 24 },
		"Category":  func(x *api.Tables) { x.Isrs[1].Category = 255 },
		"Kind":      func(x *api.Tables) { x.Messages[6].Kind = 0 },
		"Length":    func(x *api.Tables) { x.Messages[6].Length = 1 },
		"From":      func(x *api.Tables) { x.Messages[6].From = 0 },
		"Init":      func(x *api.Tables) { x.Messages[0].Init = 1 << 32 },
		"Init's":    func(x *api.Tables) { x.Messages[0].Init = 1 << 63 },
		"Queue":     func(x *api.Tables) { x.Messages[6].Queue = 1 },
		"257 tasks": func(x *api.Tables) { *x = crowded(); x.Tasks = append(x.Tasks, x.Tasks[0]); x.Rings[0].Capacity += 255 },
	} {
		x := whole()
		turn(&x)
		refuses(t, what, imageOf(x), api.ErrTables)
	}
}

// P10.2, R1: as many rows as the head can tell, all there.
func TestManyRows(t *testing.T) {
	b := wholeImage()
	b = b[:28]
	for part := range 7 {
		b = counted(b, part, 0xffff)
	}
	sizes := []int{11, 3, 2, 12, 16, 3, 18}
	for part, size := range sizes {
		refuses(t, "too few bytes", seal(append(b, 0)), api.ErrCut)
		b = append(b, make([]byte, 0xffff*size)...)
		if part < 6 {
			refuses(t, "rows missing", seal(b), api.ErrCut)
		}
	}
	refuses(t, "a row too short", seal(b[:len(b)-1]), api.ErrCut)
	refuses(t, "all there", seal(b), api.ErrTables)
	b[28+0xffff*(11+3)] = 2
	refuses(t, "a flag", seal(b), api.ErrForm)
}

// draft is an image on its way: what stands behind the head's size and ahead of the sum, and what is said of it.
type draft struct {
	mark string
	rows []byte
	size int
	sum  uint16
	keep int
}

func (d draft) bytes() []byte {
	b := append([]byte(d.mark), 0, 0, 0, 0)
	b = append(b, d.rows...)
	b = sumTurned(sized(append(b, 0, 0), uint32(len(b)+2+d.size)), d.sum)
	return b[:min(d.keep, len(b))]
}

// wrong is a thing that P10.2 names.
type wrong struct {
	what string
	code api.Errno
	turn func(d *draft)
}

// wrongs are these things, in P10.2's order.
func wrongs() []wrong {
	return []wrong{
		{"three bytes", api.ErrImage, func(d *draft) { d.keep = 3 }},
		{"another mark", api.ErrImage, func(d *draft) { d.mark = "TPT2" }},
		{"29 bytes", api.ErrCut, func(d *draft) { d.rows = d.rows[:19] }},
		{"another size", api.ErrCut, func(d *draft) { d.size = 1 }},
		{"another sum", api.ErrSum, func(d *draft) { d.sum = 1 }},
		{"a flag", api.ErrForm, func(d *draft) { d.rows[28-8+2] = 2 }},
		{"a row that is cut", api.ErrCut, func(d *draft) { d.rows = d.rows[:len(d.rows)-1] }},
		{"a byte left", api.ErrCut, func(d *draft) { d.rows = append(d.rows, 0) }},
		{"tables that may not be", api.ErrTables, func(d *draft) { d.rows[24-8]++ }},
	}
}

// P10.2: each of these things alone, two at once, and more: the first is told.
func TestFirstIsTold(t *testing.T) {
	all := wrongs()
	for set := range 1 << len(all) {
		if set>>6&3 == 3 {
			continue // A row that is cut leaves no byte.
		}
		d := draft{mark: "TPT1", rows: wholeImage()[8:], keep: 1 << 20}
		what, code := "", api.OK
		for i := len(all) - 1; i >= 0; i-- {
			if set>>i&1 == 1 {
				all[i].turn(&d)
				what, code = all[i].what+", "+what, all[i].code
			}
		}
		if code == api.OK {
			decodes(t, "nothing wrong", d.bytes(), whole())
		} else {
			refuses(t, what, d.bytes(), code)
		}
		agrees(t, what, d.bytes())
	}
}

// P10.2: a row that is cut, and tables that may not be, which is told behind it.
func TestCutAndRefused(t *testing.T) {
	x := whole()
	x.Modes, x.Tasks[0].Ring, x.Resources[0].Ceiling, x.Messages[0].Kind = 0, 9, 200, 9
	b := open(imageOf(x))
	refuses(t, "refused", seal(b), api.ErrTables)
	for cut := 28; cut < len(b); cut++ {
		refuses(t, "cut", seal(b[:cut]), api.ErrCut)
	}
}

// The chapter's second example.
func TestSecondExample(t *testing.T) {
	b := seal(smallImage())
	refuses(t, "three bytes", b[:3], api.ErrImage)
	refuses(t, "without its last byte", b[:43], api.ErrCut)
	for bit := range 8 {
		c := slices.Clone(b)
		c[len(c)-5] ^= 1 << bit
		refuses(t, "the fifth byte from the end", c, api.ErrSum)
	}
}
