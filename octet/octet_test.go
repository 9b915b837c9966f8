package octet_test

import (
	"bytes"
	"math"
	"strings"
	"testing"

	"tappet/api"
	"tappet/octet"
)

// chance is a row of numbers that is the same in every run.
type chance uint64

func (c *chance) below(n int) int {
	*c = *c*6364136223846793005 + 1442695040888963407
	return int((uint64(*c) >> 33) % uint64(n))
}

func (c *chance) number() uint64 {
	return uint64(c.below(1<<31))<<33 ^ uint64(c.below(1<<31))<<16 ^ uint64(c.below(1<<31))
}

func (c *chance) bytes(most int) []byte {
	b := make([]byte, c.below(most+1))
	for i := range b {
		b[i] = byte(c.below(256))
	}
	return b
}

func (c *chance) text(most int) string {
	b := c.bytes(most)
	for i := range b {
		b[i] = 32 + b[i]%95
	}
	return string(b)
}

func isText(b int) bool { return 32 <= b && b <= 126 }

// P1.1
func TestPlainOfEachByte(t *testing.T) {
	for b := range 256 {
		for _, s := range []string{string([]byte{byte(b)}), "a" + string([]byte{byte(b)}), string([]byte{byte(b)}) + "a"} {
			if octet.Plain(s) != isText(b) {
				t.Errorf("Plain(%q): %t", s, octet.Plain(s))
			}
		}
	}
}

// P1.1
func TestPlainLengths(t *testing.T) {
	if !octet.Plain("") || !octet.Plain("a text, of \"quotes\" and \\") {
		t.Error("ordinary texts")
	}
	if !octet.Plain(strings.Repeat("~", 255)) {
		t.Error("255 bytes are a text")
	}
	if octet.Plain(strings.Repeat(" ", 256)) || octet.Plain(strings.Repeat(" ", 100000)) {
		t.Error("256 bytes and more are none")
	}
	if octet.Plain(strings.Repeat("a", 254) + "\n") {
		t.Error("the last byte counts")
	}
	if octet.Plain("\u00e9") || octet.Plain("\U0001f600") {
		t.Error("runes above 126")
	}
}

// P1.2
func TestNumberEdges(t *testing.T) {
	for n := 1; n <= 8; n++ {
		greatest := uint64(math.MaxUint64) >> (64 - 8*n)
		checkNumber(t, 0, n, make([]byte, n))
		checkNumber(t, greatest, n, bytes.Repeat([]byte{255}, n))
		high := make([]byte, n)
		high[n-1] = 1
		checkNumber(t, 1<<(8*(n-1)), n, high)
		if n < 8 {
			refuseNumber(t, greatest+1, n)
			refuseNumber(t, math.MaxUint64, n)
		}
	}
	checkNumber(t, 258, 2, []byte{2, 1})
	checkNumber(t, 0x0102030405060708, 8, []byte{8, 7, 6, 5, 4, 3, 2, 1})
	refuseNumber(t, 256, 1)
}

// P1.2
func TestNumberOfNoWidth(t *testing.T) {
	for _, n := range []int{0, -1, 9, 10, 64, math.MinInt, math.MaxInt} {
		refuseNumber(t, 0, n)
		refuseNumber(t, 1, n)
		refuseNumber(t, math.MaxUint64, n)
	}
}

func checkNumber(t *testing.T, v uint64, n int, want []byte) {
	t.Helper()
	if b, e := octet.Number(v, n); e != api.OK || !bytes.Equal(b, want) {
		t.Errorf("Number(%d, %d): %v %d, not %v", v, n, b, e, want)
	}
}

func refuseNumber(t *testing.T, v uint64, n int) {
	t.Helper()
	if b, e := octet.Number(v, n); e != api.ErrArg || len(b) != 0 {
		t.Errorf("Number(%d, %d): %v %d, not ErrArg", v, n, b, e)
	}
}

// P1.2
func TestText(t *testing.T) {
	for _, s := range []string{"", "ab", " ~", strings.Repeat("x", 255)} {
		b, e := octet.Text(s)
		if e != api.OK || !bytes.Equal(b, append([]byte{byte(len(s))}, s...)) {
			t.Errorf("Text(%q): %v %d", s, b, e)
		}
	}
	for _, s := range []string{"\n", "\x1f", "\x7f", "a\x00", "\xff", "\u00e9", strings.Repeat("x", 256)} {
		if b, e := octet.Text(s); e != api.ErrText || len(b) != 0 {
			t.Errorf("Text(%q): %v %d, not ErrText", s, b, e)
		}
	}
}

// P1.3
func TestCrcOfKnownRows(t *testing.T) {
	for _, x := range []struct {
		row  string
		want uint16
	}{{"", 0xffff}, {"123456789", 0x29b1}, {"\x00", 0xe1f0}, {"A", 0xb915}, {"\xff\xff", 0}} {
		if c := octet.Crc([]byte(x.row)); c != x.want {
			t.Errorf("Crc(%q): %04x, not %04x", x.row, c, x.want)
		}
	}
	if octet.Crc() != 0xffff || octet.Crc(nil) != 0xffff || octet.Crc(nil, []byte{}) != 0xffff {
		t.Error("the sum of no byte")
	}
}

// remainder reckons the sum as one long division, the highest bit of each byte first.
func remainder(b []byte) uint16 {
	row := append(append([]byte(nil), b...), 0, 0)
	row[0] ^= 255
	row[1] ^= 255
	for i := range 8 * len(b) {
		if row[i/8]>>(7-i%8)&1 == 0 {
			continue
		}
		for _, j := range []int{0, 4, 11, 16} {
			row[(i+j)/8] ^= 1 << (7 - (i+j)%8)
		}
	}
	return uint16(row[len(b)])<<8 | uint16(row[len(b)+1])
}

// P1.3
func TestCrcIsARemainder(t *testing.T) {
	c := chance(1)
	for range 2000 {
		b := c.bytes(40)
		if got, want := octet.Crc(b), remainder(b); got != want {
			t.Fatalf("Crc(%v): %04x, not %04x", b, got, want)
		}
	}
}

// P1.3
func TestCrcOfParts(t *testing.T) {
	row := []byte("123456789")
	for i := range len(row) + 1 {
		for j := i; j <= len(row); j++ {
			if octet.Crc(row[:i], row[i:j], nil, row[j:]) != 0x29b1 {
				t.Error("cut at", i, j)
			}
		}
	}
	var single [][]byte
	for _, b := range row {
		single = append(single, []byte{b})
	}
	if octet.Crc(single...) != 0x29b1 {
		t.Error("byte by byte")
	}
	if octet.Crc(row[5:], row[:5]) == 0x29b1 || string(row) != "123456789" {
		t.Error("the order of the parts, and that they are left as they are")
	}
}

// P1.3: each pattern of 16 bits side by side, at each place of a row.
func TestCrcTellsBursts(t *testing.T) {
	row := []byte{0x31, 0, 0xff, 0x5a, 0x80}
	sum := octet.Crc(row)
	other := make([]byte, len(row))
	for at := range 8*len(row) - 15 {
		for pattern := 1; pattern < 1<<16; pattern++ {
			copy(other, row)
			laid := uint32(pattern) << (8 - at%8)
			other[at/8] ^= byte(laid >> 16)
			other[at/8+1] ^= byte(laid >> 8)
			if at%8 != 0 {
				other[at/8+2] ^= byte(laid)
			}
			if octet.Crc(other) == sum {
				t.Fatalf("bits %04x from bit %d on are not seen", pattern, at)
			}
		}
	}
}
