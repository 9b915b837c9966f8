package octet_test

import (
	"bytes"
	"fmt"
	"math"
	"strings"
	"testing"

	"tappet/api"
	"tappet/octet"
)

// P1.4
func TestHex(t *testing.T) {
	if octet.Hex(nil) != "" || octet.Hex([]byte{0, 255}) != "00ff" {
		t.Error("Hex of none, and of 0 and 255")
	}
	for b := range 256 {
		if s := octet.Hex([]byte{byte(b), 7}); s != fmt.Sprintf("%02x07", b) {
			t.Errorf("Hex of %d and 7: %q", b, s)
		}
	}
}

// P1.4: of all rows of two bytes just those that Hex writes are taken.
func TestUnhexOfAllPairs(t *testing.T) {
	written := map[string]byte{}
	for b := range 256 {
		written[octet.Hex([]byte{byte(b)})] = byte(b)
	}
	for i := range 1 << 16 {
		s := string([]byte{byte(i >> 8), byte(i)})
		want, ok := written[s]
		b, e := octet.Unhex(s)
		if ok && (e != api.OK || len(b) != 1 || b[0] != want) {
			t.Errorf("Unhex(%q): %v %d, not %d", s, b, e, want)
		}
		if !ok && (e != api.ErrHex || len(b) != 0) {
			t.Errorf("Unhex(%q): %v %d, not ErrHex", s, b, e)
		}
	}
}

// P1.4
func TestUnhexLengthsAndWrongOnes(t *testing.T) {
	if b, e := octet.Unhex(""); e != api.OK || len(b) != 0 {
		t.Error("Unhex of nothing:", b, e)
	}
	if b, e := octet.Unhex("00ff10"); e != api.OK || !bytes.Equal(b, []byte{0, 255, 16}) {
		t.Error("Unhex(00ff10):", b, e)
	}
	for _, s := range []string{"0", "000", "0F", "00FF", "0g", "00 ", " 00", "0x00", "00\n", "\u00e9", "00\xff\xff", "+1", "0000g0", "00000g"} {
		if b, e := octet.Unhex(s); e != api.ErrHex || len(b) != 0 {
			t.Errorf("Unhex(%q): %v %d, not ErrHex", s, b, e)
		}
	}
}

func numbersAtEdges() []uint64 {
	list := []uint64{math.MaxUint64, math.MaxUint64 - 1}
	for p := uint64(1); ; p *= 10 {
		list = append(list, p-1, p, p+1, 9*(p/10))
		if p == 10000000000000000000 {
			return list
		}
	}
}

// P1.5, P1.8
func TestDecimalAndDigits(t *testing.T) {
	for _, v := range numbersAtEdges() {
		s := octet.Decimal(v)
		if s != fmt.Sprint(v) {
			t.Errorf("Decimal(%d): %q", v, s)
		}
		for _, most := range []uint64{v, v | 1, math.MaxUint64} {
			if got, e := octet.Digits(s, most); got != v || e != api.OK {
				t.Errorf("Digits(%q, %d): %d %d", s, most, got, e)
			}
		}
		if v == 0 {
			continue
		}
		for _, most := range []uint64{v - 1, v / 10, 0} {
			refuseDigits(t, s, most)
		}
	}
}

// P1.5
func TestDigitsBelowSmallLimits(t *testing.T) {
	for most := range uint64(130) {
		for v := range uint64(260) {
			got, e := octet.Digits(fmt.Sprint(v), most)
			if v <= most && (got != v || e != api.OK) || v > most && (got != 0 || e != api.ErrDigits) {
				t.Errorf("Digits(%d, %d): %d %d", v, most, got, e)
			}
		}
	}
}

// P1.5
func TestDigitsOfWrongTexts(t *testing.T) {
	wrong := []string{"", "00", "007", "01", "-1", "+1", "-0", " 1", "1 ", "1\n", "1_000", "0x1", "1a", "a", "f", "1.0", "1e3",
		"\u0661", "\uff11", "\xff", "18446744073709551616", "18446744073709551620", "99999999999999999999",
		"184467440737095516150", "36893488147419103232", strings.Repeat("9", 100000), "1" + strings.Repeat("0", 64)}
	for _, s := range wrong {
		refuseDigits(t, s, math.MaxUint64)
		refuseDigits(t, s, 9)
	}
	for b := range 256 {
		if '0' <= b && b <= '9' {
			continue
		}
		refuseDigits(t, string([]byte{byte(b)}), math.MaxUint64)
		refuseDigits(t, "1"+string([]byte{byte(b)}), math.MaxUint64)
	}
	refuseDigits(t, "007", 9)
	refuseDigits(t, "10", 9)
	refuseDigits(t, "1", 0)
	if v, e := octet.Digits("0", 0); v != 0 || e != api.OK {
		t.Error("Digits(0, 0):", v, e)
	}
}

func refuseDigits(t *testing.T, s string, most uint64) {
	t.Helper()
	if v, e := octet.Digits(s, most); v != 0 || e != api.ErrDigits {
		t.Errorf("Digits(%.40q, %d): %d %d, not ErrDigits", s, most, v, e)
	}
}

// P1.8
func TestHexThereAndBack(t *testing.T) {
	c := chance(2)
	for range 500 {
		b := c.bytes(300)
		if got, e := octet.Unhex(octet.Hex(b)); e != api.OK || !bytes.Equal(got, b) {
			t.Fatalf("Unhex of Hex(%v): %v %d", b, got, e)
		}
		v := c.number() >> c.below(64)
		if got, e := octet.Digits(octet.Decimal(v), v); e != api.OK || got != v {
			t.Fatalf("Digits of Decimal(%d): %d %d", v, got, e)
		}
	}
	for _, s := range []string{"", "00", "09af", "ffffffff"} {
		if b, e := octet.Unhex(s); e != api.OK || octet.Hex(b) != s {
			t.Errorf("Hex of Unhex(%q): %q %d", s, octet.Hex(b), e)
		}
	}
	for _, s := range []string{"0", "9", "10", "18446744073709551615"} {
		if v, e := octet.Digits(s, math.MaxUint64); e != api.OK || octet.Decimal(v) != s {
			t.Errorf("Decimal of Digits(%q): %d %d", s, v, e)
		}
	}
}
