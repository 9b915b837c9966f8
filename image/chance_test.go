package image_test

import (
	"bytes"
	"math/bits"
	"slices"
	"testing"

	"tappet/api"
	"tappet/image"
	"tappet/table"
)

// thereAndBack: Decode of what Encode gives are the tables, Encode of what Decode gives are the bytes.
func thereAndBack(t *testing.T, x api.Tables) []byte {
	t.Helper()
	b, e := image.Encode(x)
	if e != api.OK {
		t.Fatalf("Encode: %d: %s", e, short(x))
	}
	y, e := image.Decode(b)
	if e != api.OK || !image.Same(x, y) || !alike(x, y) {
		t.Fatalf("Decode of Encode: %d %s, not %s", e, short(y), short(x))
	}
	c, e := image.Encode(y)
	if e != api.OK || !bytes.Equal(b, c) {
		t.Fatalf("Encode of Decode: %d % x, not % x", e, c, b)
	}
	return b
}

// P10.5: tables made by chance, there and back; their images are as the chapter tells.
func TestThereAndBack(t *testing.T) {
	m := &maker{2}
	for range 4000 {
		x := m.tables()
		b := thereAndBack(t, x)
		encodes(t, "made", x, imageOf(x))
		decodes(t, "made", b, x)
		if t.Failed() {
			return
		}
	}
	for _, x := range []api.Tables{small(), whole(), greatest(), crowded()} {
		thereAndBack(t, x)
	}
}

// P10.5: what the generator makes of a configuration goes there and back.
func TestMadeByTheGenerator(t *testing.T) {
	c := api.Config{
		CPU: "c", OS: api.Os{Name: "o", Error: true, Schedule: true}, Modes: []string{"m", "n"},
		Resources: []api.Resource{{Name: "r", Kind: api.ResStandard}, {Name: "i", Kind: api.ResInternal}, {Name: "u", Kind: api.ResStandard}},
		Events:    []api.Event{{Name: "e", Mask: 6}},
		Tasks: []api.Task{
			{Name: "t", Priority: 1, Activation: 9, Full: true, Auto: []int{1}, Resources: []int{0, 1}},
			{Name: "x", Priority: 5, Activation: 1, Events: []int{0}},
		},
		Counters: []api.Counter{{Name: "k", Max: 9, Base: 1, Min: 2}},
		Alarms:   []api.Alarm{{Name: "a", Action: api.Action{Kind: api.ActEvent, Task: 1}, Auto: []int{0}, Time: 9, Cycle: 2}},
		Isrs:     []api.Isr{{Name: "i", Category: 2, Priority: 64, Resources: []int{0}}},
		Messages: []api.Message{{Name: "s", Kind: api.MsgSend, Length: 2}, {Name: "q", Kind: api.MsgQueued, Queue: 3, Action: api.Action{Kind: api.ActCallback, Name: "f"}}},
	}
	x, e := table.Make(c)
	if e != api.OK {
		t.Fatal("Make:", e)
	}
	if b := thereAndBack(t, x); !bytes.Equal(b, imageOf(x)) {
		t.Errorf("% x, not % x", b, imageOf(x))
	}
}

// isRefused: Decode and Parts refuse the bytes, for whichever reason.
func isRefused(t *testing.T, what string, b []byte) {
	t.Helper()
	x, e := image.Decode(b)
	l, also := image.Parts(b)
	if e == api.OK || also != e || !alike(x, api.Tables{}) || len(l) > 0 {
		t.Errorf("%q: Decode: %d, Parts: %d: % x", what, e, also, b)
	}
}

// P10.5: each byte of an image turned, each beginning of it, and bytes behind it.
func TestTurnedCutAndLonger(t *testing.T) {
	m := &maker{3}
	for n := range 60 {
		x := m.tables()
		switch n {
		case 0:
			x = small()
		case 1:
			x = whole()
		}
		b := thereAndBack(t, x)
		for i := range b {
			c := slices.Clone(b)
			for v := 1; v < 256; v += 1 + 30*min(n, 3) {
				c[i] = b[i] ^ byte(v)
				if _, e := image.Decode(c); e == api.OK {
					t.Errorf("the byte %d turned by %x is taken: % x", i, v, b)
				}
			}
			isRefused(t, "turned", c)
			isRefused(t, "a beginning", b[:i])
		}
		for _, behind := range [][]byte{{0}, {255}, {0, 0}, b[:2], b[len(b)-2:], b, make([]byte, 300)} {
			refuses(t, "bytes behind", slices.Concat(b, behind), api.ErrCut)
		}
		if t.Failed() {
			return
		}
	}
}

// P10.5: bits turned side by side, up to 16 of them, across bytes: told, too.
func TestBitsSideBySide(t *testing.T) {
	b := seal(wholeImage())
	m := &maker{4}
	for range 20000 {
		c := slices.Clone(b)
		at, pattern := m.below(8*len(b)-15), 1+m.below(1<<16-1)
		for bit := range 16 {
			if pattern>>bit&1 == 1 {
				c[(at+bit)/8] ^= 0x80 >> ((at + bit) % 8)
			}
		}
		if _, e := image.Decode(c); e == api.OK {
			t.Fatalf("%d bits turned from %d on are taken", bits.OnesCount(uint(pattern)), at)
		}
	}
}

// P10.2, P10.3, P10.5: each byte between the size and the sum turned, with the sum made right again: as the second reading says; what is taken is the image of what is read.
func TestEveryByteSealed(t *testing.T) {
	met := map[api.Errno]int{}
	for _, b := range [][]byte{smallImage(), wholeImage()} {
		for i := 8; i < len(b); i++ {
			for v := range 256 {
				c := slices.Clone(b)
				c[i] = byte(v)
				met[agrees(t, "turned and sealed", seal(c))]++
			}
			if t.Failed() {
				return
			}
		}
	}
	for _, code := range []api.Errno{api.OK, api.ErrCut, api.ErrForm, api.ErrTables} {
		if met[code] < 100 {
			t.Errorf("met %v", met)
		}
	}
}

// spoil turns bytes of what stands ahead of a sum: some of them, or puts some in, or takes some away.
func (m *maker) spoil(b []byte) []byte {
	at := 8 + m.below(len(b)-8)
	switch m.below(5) {
	case 0:
		b[at] = byte(m.below(256))
	case 1:
		b[at] = pick[byte](&m.chance, 0, 1, 2, 3, 127, 128, 129, 255, b[at]+1, b[at]-1)
	case 2:
		b = slices.Insert(b, at, byte(m.below(4)))
	case 3:
		b = slices.Delete(b, at, min(len(b), at+1+m.below(3)))
	case 4:
		part := m.below(7)
		b[8+2*part] += pick[byte](&m.chance, 1, 255)
	}
	return b
}

// P10.2, P10.3: images in which things were turned by chance, with the sum made right again or not.
func TestSpoiltImages(t *testing.T) {
	m := &maker{5}
	met := map[api.Errno]int{}
	for n := range 30000 {
		b := open(imageOf(m.tables()))
		for range m.below(3) {
			if len(b) > 28 {
				b = m.spoil(b)
			}
		}
		b = seal(b)
		switch m.below(12) {
		case 0:
			b = sized(b, uint32(len(b)+m.below(3)-1))
		case 1:
			b = sumTurned(b, uint16(m.below(1<<16)))
		case 2:
			b = b[:m.below(len(b))]
		case 3:
			b[m.below(4)] ^= byte(m.below(2))
		}
		kept := slices.Clone(b)
		met[agrees(t, "spoilt", b)]++
		if !bytes.Equal(b, kept) {
			t.Errorf("changed: % x, not % x", b, kept)
		}
		if t.Failed() {
			t.Fatal("at", n)
		}
	}
	for _, code := range []api.Errno{api.OK, api.ErrImage, api.ErrCut, api.ErrSum, api.ErrForm, api.ErrTables} {
		if met[code] < 100 {
			t.Errorf("met %v", met)
		}
	}
}

// R1: any bytes.
func TestAnyBytes(t *testing.T) {
	m := &maker{6}
	for range 20000 {
		b := make([]byte, m.below(80))
		for i := range b {
			b[i] = pick[byte](&m.chance, 0, 0, 1, 2, byte(m.below(256)))
		}
		copy(b, "TPT1"[:m.below(5)])
		agrees(t, "any", b)
		if len(b) >= 8 {
			agrees(t, "any, sealed", seal(b))
		}
		if t.Failed() {
			return
		}
	}
}

func FuzzDecode(f *testing.F) {
	m := &maker{7}
	f.Add(smallImage())
	f.Add(wholeImage())
	for range 20 {
		f.Add(open(imageOf(m.tables())))
	}
	f.Fuzz(func(t *testing.T, b []byte) {
		agrees(t, "as it is", b)
		if len(b) >= 8 {
			agrees(t, "sealed", seal(b))
		}
	})
}
