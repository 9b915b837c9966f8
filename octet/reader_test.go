package octet_test

import (
	"bytes"
	"math"
	"strings"
	"testing"

	"tappet/api"
	"tappet/octet"
)

// P1.7: the example of the chapter.
func TestReaderExample(t *testing.T) {
	r := octet.NewReader([]byte{1, 2, 0})
	if v, e := r.Number(2); v != 513 || e != api.OK {
		t.Error("Number(2):", v, e)
	}
	if v, e := r.Number(2); v != 0 || e != api.ErrShort || r.Left() != 1 {
		t.Error("Number(2) of one byte:", v, e, r.Left())
	}
	if r.End() != api.ErrTail || r.Left() != 1 {
		t.Error("a byte is left")
	}
	if s, e := r.Text(); s != "" || e != api.OK || r.Left() != 0 || r.End() != api.OK {
		t.Error("Text:", s, e)
	}
}

// P1.7
func TestReaderNumbers(t *testing.T) {
	row := []byte{1, 2, 3, 4, 5, 6, 7, 0xf8, 9}
	want := uint64(0)
	for n := 1; n <= 8; n++ {
		want |= uint64(row[n-1]) << (8 * (n - 1))
		r := octet.NewReader(row)
		if v, e := r.Number(n); v != want || e != api.OK || r.Left() != 9-n {
			t.Errorf("Number(%d): %x %d, left %d", n, v, e, r.Left())
		}
		exact := octet.NewReader(row[:n])
		if v, e := exact.Number(n); v != want || e != api.OK || exact.End() != api.OK {
			t.Errorf("Number(%d) of as many: %x %d", n, v, e)
		}
		short := octet.NewReader(row[:n-1])
		if v, e := short.Number(n); v != 0 || e != api.ErrShort || short.Left() != n-1 {
			t.Errorf("Number(%d) of one fewer: %x %d", n, v, e)
		}
	}
}

// P1.7: the width is asked ahead of what is left.
func TestReaderNumberOfNoWidth(t *testing.T) {
	for _, b := range [][]byte{nil, {1}, make([]byte, 20)} {
		r := octet.NewReader(b)
		for _, n := range []int{0, -1, 9, 10, math.MinInt, math.MaxInt} {
			if v, e := r.Number(n); v != 0 || e != api.ErrArg || r.Left() != len(b) {
				t.Errorf("Number(%d) of %d bytes: %d %d, left %d", n, len(b), v, e, r.Left())
			}
		}
	}
}

// P1.7
func TestReaderBytes(t *testing.T) {
	r := octet.NewReader([]byte{1, 2, 3, 4})
	for _, n := range []int{-1, -4, math.MinInt} {
		if b, e := r.Bytes(n); len(b) != 0 || e != api.ErrArg || r.Left() != 4 {
			t.Errorf("Bytes(%d): %v %d", n, b, e)
		}
	}
	for _, n := range []int{5, math.MaxInt} {
		if b, e := r.Bytes(n); len(b) != 0 || e != api.ErrShort || r.Left() != 4 {
			t.Errorf("Bytes(%d): %v %d", n, b, e)
		}
	}
	for _, want := range [][]byte{{}, {1}, {2, 3, 4}, {}} {
		if b, e := r.Bytes(len(want)); e != api.OK || !bytes.Equal(b, want) {
			t.Errorf("Bytes(%d): %v %d", len(want), b, e)
		}
	}
	if b, e := r.Bytes(1); len(b) != 0 || e != api.ErrShort || r.End() != api.OK {
		t.Error("Bytes at the end:", b, e)
	}
}

// P1.7: what is short is told ahead of what is no text.
func TestReaderText(t *testing.T) {
	full := "\xff" + strings.Repeat("z", 255)
	for _, x := range []struct {
		row  string
		want string
		e    api.Errno
		left int
	}{
		{"", "", api.ErrShort, 0},
		{"\x01", "", api.ErrShort, 1},
		{"\x02a", "", api.ErrShort, 2},
		{"\x02\n", "", api.ErrShort, 2},
		{full[:255], "", api.ErrShort, 255},
		{"\x01\n", "", api.ErrText, 2},
		{"\x01\x1f", "", api.ErrText, 2},
		{"\x01\x7f", "", api.ErrText, 2},
		{"\x03ab\xff~", "", api.ErrText, 5},
		{"\x00", "", api.OK, 0},
		{"\x00\n", "", api.OK, 1},
		{"\x02 ~\n", " ~", api.OK, 1},
		{full, full[1:], api.OK, 0},
		{full + "z", full[1:], api.OK, 1},
	} {
		r := octet.NewReader([]byte(x.row))
		if s, e := r.Text(); s != x.want || e != x.e || r.Left() != x.left {
			t.Errorf("Text of %.20q: %q %d, left %d", x.row, s, e, r.Left())
		}
	}
}

// P1.7
func TestReaderGoesOnBehindWhatWasRefused(t *testing.T) {
	r := octet.NewReader([]byte{1, 10, 7})
	if _, e := r.Text(); e != api.ErrText {
		t.Error("no text:", e)
	}
	if v, e := r.Number(2); v != 0x0a01 || e != api.OK {
		t.Error("the bytes of what was no text:", v, e)
	}
	if _, e := r.Text(); e != api.ErrShort {
		t.Error("a text that is cut:", e)
	}
	if b, e := r.Bytes(1); len(b) != 1 || b[0] != 7 || e != api.OK {
		t.Error("the byte of what was cut:", b, e)
	}
}

// P1.7
func TestReaderOfNoBytes(t *testing.T) {
	for _, b := range [][]byte{nil, {}} {
		r := octet.NewReader(b)
		if r == nil || r.Left() != 0 || r.End() != api.OK {
			t.Fatal("a reader of no bytes is at its end")
		}
		if b, e := r.Bytes(0); len(b) != 0 || e != api.OK {
			t.Error("Bytes(0):", b, e)
		}
		if _, e := r.Number(1); e != api.ErrShort {
			t.Error("Number(1):", e)
		}
	}
}

// P1.7, R1
func TestReadersOfNobody(t *testing.T) {
	for _, r := range []*octet.Reader{nil, {}, new(octet.Reader)} {
		for _, n := range []int{1, 0, -1, 8, 9, math.MaxInt} {
			if v, e := r.Number(n); v != 0 || e != api.ErrNil {
				t.Errorf("Number(%d): %d %d", n, v, e)
			}
			if b, e := r.Bytes(n); len(b) != 0 || e != api.ErrNil {
				t.Errorf("Bytes(%d): %v %d", n, b, e)
			}
		}
		if s, e := r.Text(); s != "" || e != api.ErrNil {
			t.Error("Text:", s, e)
		}
		if r.Left() != 0 || r.End() != api.ErrNil {
			t.Error("Left, End:", r.Left(), r.End())
		}
	}
}

// R3, R4
func TestReaderSharesNothing(t *testing.T) {
	row := []byte{1, 2, 3, 4}
	r, other := octet.NewReader(row), octet.NewReader(row)
	row[2] = 99
	if b, e := r.Bytes(2); e != api.OK || !bytes.Equal(b, []byte{1, 2}) {
		t.Error("Bytes:", b, e)
	} else {
		_ = append(b, 77, 78)
		b[0] = 66
	}
	if v, e := r.Number(2); v != 0x0403 || e != api.OK {
		t.Errorf("what was read, or handed in, is still shared: %x %d", v, e)
	}
	if v, e := other.Number(4); v != 0x04030201 || e != api.OK {
		t.Errorf("two readers share something: %x %d", v, e)
	}
	if !bytes.Equal(row, []byte{1, 2, 99, 4}) {
		t.Error("what was handed in was changed:", row)
	}
}

// piece is a number of so many bytes, or, where it has none, a text.
type piece struct {
	v uint64
	n int
	s string
}

func pieces(c *chance) []piece {
	list := make([]piece, c.below(12))
	for i := range list {
		if c.below(2) == 0 {
			list[i].s = c.text(255)
			continue
		}
		n := 1 + c.below(8)
		list[i] = piece{v: c.number() >> (64 - 8*n), n: n}
	}
	return list
}

func write(p piece) ([]byte, api.Errno) {
	if p.n == 0 {
		return octet.Text(p.s)
	}
	return octet.Number(p.v, p.n)
}

func read(r *octet.Reader, like piece) (piece, api.Errno) {
	if like.n == 0 {
		s, e := r.Text()
		return piece{s: s}, e
	}
	v, e := r.Number(like.n)
	return piece{v: v, n: like.n}, e
}

// P1.8
func TestReaderReadsWhatWasWritten(t *testing.T) {
	c := chance(4)
	for range 500 {
		list := pieces(&c)
		var row []byte
		for _, p := range list {
			b, e := write(p)
			if e != api.OK {
				t.Fatal("write:", p, e)
			}
			row = append(row, b...)
		}
		r := octet.NewReader(row)
		for _, p := range list {
			if got, e := read(r, p); got != p || e != api.OK {
				t.Fatal("read:", got, e, "not", p)
			}
		}
		if r.End() != api.OK || r.Left() != 0 {
			t.Fatal("the end is not reached:", r.Left())
		}
	}
}

// P1.8: and the other way round, what a reader takes is what is written of it.
func TestWrittenAgainWhatWasRead(t *testing.T) {
	c := chance(5)
	taken := [9]int{}
	for range 4000 {
		row := append([]byte{byte(c.below(40))}, c.text(30)...)
		like := piece{n: c.below(9)}
		r := octet.NewReader(row)
		p, e := read(r, like)
		if e != api.OK {
			continue
		}
		taken[like.n]++
		if b, e := write(p); e != api.OK || !bytes.Equal(b, row[:len(row)-r.Left()]) {
			t.Fatal("written again:", b, e, "of", row)
		}
	}
	for n, times := range taken {
		if times < 50 {
			t.Error("too few were taken to tell anything:", n, times)
		}
	}
}
