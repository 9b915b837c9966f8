package trace_test

import (
	"encoding/binary"
	"slices"
	"testing"

	"tappet/api"
	"tappet/trace"
)

// P25.2: each beginning, with the sum that was laid behind the whole, and with one of its own.
func TestBeginnings(t *testing.T) {
	b := sealed(wholeBytes())
	for n := range b {
		refuses(t, "a beginning", b[:n])
	}
	for n := range wholeBytes() {
		refuses(t, "a beginning, sealed", sealed(b[:n]))
	}
	for n := range 30 {
		refuses(t, "zeros", make([]byte, n))
		refuses(t, "zeros, sealed", sealed(make([]byte, n)))
	}
	refuses(t, "a sum alone", sealed(nil))
	refuses(t, "the mark alone", []byte("TPTR"))
	refuses(t, "the mark, sealed", sealed([]byte("TPTR")))
}

// P25.2: bytes behind the last entry, and behind the sum.
func TestBytesBehind(t *testing.T) {
	for _, ahead := range [][]byte{wholeBytes(), open(bytesOf(api.Trace{}))} {
		for _, n := range []int{1, 2, 3, 45, 46, 47, 92} {
			refuses(t, "zeros", sealed(append(slices.Clone(ahead), make([]byte, n)...)))
			refuses(t, "zeros behind the sum", append(sealed(ahead), make([]byte, n)...))
		}
		refuses(t, "two sums", sealed(sealed(ahead)))
		refuses(t, "twice", append(sealed(ahead), sealed(ahead)...))
	}
}

// P25.2: other marks, with a right sum.
func TestMarks(t *testing.T) {
	for i := range 4 {
		for v := range 256 {
			b := wholeBytes()
			b[i] = byte(v)
			if is := decodes(t, "a mark", sealed(b)); is != (b[i] == "TPTR"[i]) {
				t.Errorf("byte %d of the mark is %d: %v", i, v, is)
			}
		}
	}
	for _, mark := range []string{"tptr", "TPT1", "RTPT", "TPRT", "\x00\x00\x00\x00"} {
		refuses(t, mark, sealed(append([]byte(mark), wholeBytes()[4:]...)))
	}
}

// P25.2: all other sums.
func TestSums(t *testing.T) {
	b := sealed(wholeBytes())
	for bits := 1; bits < 1<<16; bits++ {
		c := slices.Clone(b)
		c[len(c)-2] ^= byte(bits)
		c[len(c)-1] ^= byte(bits >> 8)
		if _, e := trace.Decode(c); e != api.ErrRecord {
			t.Fatalf("another sum %x: %d", bits, e)
		}
	}
	c := slices.Clone(b)
	c[len(c)-2], c[len(c)-1] = c[len(c)-1], c[len(c)-2]
	refuses(t, "the sum's bytes the other way round", c)
}

// P25.5: one byte turned, whichever, is told: to whatever, or, in long traces, by each bit and by all of them.
func TestOneByteTurned(t *testing.T) {
	for _, r := range []api.Trace{whole(), {}, {Sum: 65535}, {Entries: make([]api.Traced, 3)}, recorded(t, example(t), exampleSteps()), recorded(t, tablesOf(t, ordinary()), busy())} {
		b, e := trace.Encode(r)
		if e != api.OK {
			t.Fatal("Encode:", e)
		}
		for i := range b {
			for bits := 1; bits < 256; bits++ {
				if len(b) > 300 && bits&(bits-1) != 0 && bits != 255 {
					continue
				}
				b[i] ^= byte(bits)
				if s, e := trace.Decode(b); e != api.ErrRecord || s.Sum != 0 || len(s.Entries) > 0 {
					t.Fatalf("byte %d turned by %x: %d", i, bits, e)
				}
				b[i] ^= byte(bits)
			}
		}
		if s, e := trace.Decode(b); e != api.OK || !alike(s, r) {
			t.Errorf("turned back: %d", e)
		}
	}
}

// P25.2: each byte ahead of the sum, whatever it is, with a right sum: there is a trace, or there is none.
func TestEachByteSealed(t *testing.T) {
	ahead := wholeBytes()
	met := map[bool]int{}
	for i := range ahead {
		for v := range 256 {
			b := slices.Clone(ahead)
			b[i] = byte(v)
			met[decodes(t, "a byte", sealed(b))]++
		}
	}
	if met[true] < 1000 || met[false] < 1000 {
		t.Errorf("met: %v", met)
	}
}

// P25.2: the byte of an idle answer is 0 or 1.
func TestIdleByte(t *testing.T) {
	for at, from := range []int{10, 10 + 46, 10 + 92} {
		b := open(bytesOf(api.Trace{Entries: make([]api.Traced, 3)}))
		for v := range 256 {
			b[from+17+1] = byte(v)
			if v > 1 {
				refuses(t, "an idle byte", sealed(b))
				continue
			}
			r, e := trace.Decode(sealed(b))
			if e != api.OK || r.Entries[at].Answer.Idle != (v == 1) {
				t.Errorf("entry %d, %d: %d, %+v", at, v, e, r)
			}
		}
	}
}

// counted lays how many entries there are into what stands ahead of a sum.
func counted(ahead []byte, n uint32) []byte {
	ahead = slices.Clone(ahead)
	binary.LittleEndian.PutUint32(ahead[6:], n)
	return ahead
}

// P25.2: another number of entries than there are.
func TestCounts(t *testing.T) {
	for n := range 5 {
		ahead := open(bytesOf(api.Trace{Sum: 9, Entries: make([]api.Traced, n)}))
		for _, m := range []uint32{0, 1, 2, 3, 4, 5, 6, 255, 256, 65535, 65536, 65537, 1 << 24, 1<<31 - 1, 1 << 31, 1<<32 - 1, uint32(n) + 256, uint32(n) + 65536, uint32(n) + 1<<24, uint32(n) + 1<<31} {
			if is := decodes(t, "a count", sealed(counted(ahead, m))); is != (m == uint32(n)) {
				t.Errorf("%d for %d: %v", m, n, is)
			}
		}
	}
}

// P25.2: as many entries as may be, and one more, that are all there.
func TestCountsThatMayBe(t *testing.T) {
	entries := make([]byte, 46*65538)
	for n, may := range map[int]bool{65535: true, 65536: true, 65537: false, 65538: false} {
		ahead := counted(append(open(bytesOf(api.Trace{Sum: 3})), entries[:46*n]...), uint32(n))
		r, e := trace.Decode(sealed(ahead))
		if (e == api.OK) != may || may && (len(r.Entries) != n || r.Sum != 3) || !may && !alike(r, api.Trace{}) {
			t.Errorf("%d entries: %d, %d of them", n, e, len(r.Entries))
		}
	}
}

// P25.2: lists that say of more, and of less, than there is.
func TestListsThatAreNone(t *testing.T) {
	for begun := range 4 {
		for expired := range 4 {
			r := api.Trace{Entries: []api.Traced{{Answer: api.Answer{Begun: make([]api.Frame, begun), Expired: make([]int, expired)}}}}
			ahead := open(bytesOf(r))
			for n := range 256 {
				b := slices.Clone(ahead)
				b[10+17+14+13] = byte(n)
				decodes(t, "begun", sealed(b))
				b = slices.Clone(ahead)
				b[10+17+14+13+1+13*begun] = byte(n)
				if is := decodes(t, "expired", sealed(b)); is != (n == expired) {
					t.Errorf("%d for %d expired: %v", n, expired, is)
				}
			}
		}
	}
}

// P25.2: bytes by chance, near traces and far from them, with a right sum and with none.
func TestBytesByChance(t *testing.T) {
	c := chance(2)
	met := map[bool]int{}
	for range 20000 {
		b := open(bytesOf(c.trace(3)))
		for range c.below(4) {
			i := c.below(len(b))
			switch c.below(5) {
			case 0:
				b = slices.Delete(b, i, i+1)
			case 1:
				b = slices.Insert(b, i, byte(c.upTo(255)))
			case 2:
				b = b[:i]
			default:
				b[i] = byte(c.upTo(255))
			}
			if len(b) == 0 {
				break
			}
		}
		if !c.one(10) {
			b = sealed(b)
		}
		met[decodes(t, "by chance", b)]++
		if t.Failed() {
			return
		}
	}
	if met[true] < 1000 || met[false] < 1000 {
		t.Errorf("met: %v", met)
	}
}

// P25.2, P25.5, R1: whatever the bytes are.
func FuzzDecode(f *testing.F) {
	f.Add(open(bytesOf(api.Trace{})))
	f.Add(wholeBytes())
	f.Fuzz(func(t *testing.T, b []byte) {
		decodes(t, "as it is", b)
		decodes(t, "sealed", sealed(b))
		tells(t, running(task(len(b))), len(b))
	})
}
