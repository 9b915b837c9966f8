package image_test

import (
	"testing"

	"tappet/api"
	"tappet/image"
)

// P10.3, example 1: where the parts stand.
func TestPartsByHand(t *testing.T) {
	for _, c := range []struct {
		b    []byte
		want []api.Part
	}{
		{seal(smallImage()), []api.Part{
			{Kind: api.PartHead, Off: 0, Len: 28, Rows: 1}, {Kind: api.PartTasks, Off: 28, Len: 11, Rows: 1}, {Kind: api.PartRings, Off: 39, Len: 3, Rows: 1},
			{Kind: api.PartResources, Off: 42}, {Kind: api.PartCounters, Off: 42}, {Kind: api.PartAlarms, Off: 42}, {Kind: api.PartIsrs, Off: 42}, {Kind: api.PartMessages, Off: 42},
			{Kind: api.PartSum, Off: 42, Len: 2, Rows: 1},
		}},
		{seal(wholeImage()), []api.Part{
			{Kind: api.PartHead, Off: 0, Len: 28, Rows: 1}, {Kind: api.PartTasks, Off: 28, Len: 51, Rows: 4}, {Kind: api.PartRings, Off: 79, Len: 9, Rows: 3},
			{Kind: api.PartResources, Off: 88, Len: 14, Rows: 7}, {Kind: api.PartCounters, Off: 102, Len: 24, Rows: 2}, {Kind: api.PartAlarms, Off: 126, Len: 64, Rows: 4},
			{Kind: api.PartIsrs, Off: 190, Len: 15, Rows: 4}, {Kind: api.PartMessages, Off: 205, Len: 126, Rows: 7}, {Kind: api.PartSum, Off: 331, Len: 2, Rows: 1},
		}},
	} {
		if l, e := image.Parts(c.b); e != api.OK || !alike(l, c.want) {
			t.Errorf("Parts: %d %s, not %s", e, short(l), short(c.want))
		}
	}
}

// P10.3: the nine parts, in order, end to end, from the first byte to the last.
func TestPartsEndToEnd(t *testing.T) {
	m := &maker{8}
	all := []api.Tables{small(), whole(), greatest(), crowded()}
	for range 1000 {
		all = append(all, m.tables())
	}
	for _, x := range all {
		b := imageOf(x)
		l, e := image.Parts(b)
		if e != api.OK || len(l) != 9 {
			t.Fatalf("Parts: %d %s", e, short(l))
		}
		at := 0
		for i, p := range l {
			if int(p.Kind) != i+1 || p.Off != at {
				t.Errorf("part %d: %+v, not at %d", i, p, at)
			}
			at += p.Len
		}
		if at != len(b) || l[0].Rows != 1 || l[8].Rows != 1 {
			t.Errorf("%d bytes of %d: %s", at, len(b), short(l))
		}
		for part, n := range countsOf(x) {
			if l[1+part].Rows != n || (n == 0) != (l[1+part].Len == 0) {
				t.Errorf("%+v, not %d rows", l[1+part], n)
			}
		}
	}
}

// P10.3: Decode's error. (All other tests of refused bytes ask Parts, too.)
func TestPartsRefused(t *testing.T) {
	b := seal(wholeImage())
	for _, c := range []struct {
		b    []byte
		code api.Errno
	}{{nil, api.ErrImage}, {b[:3], api.ErrImage}, {b[:29], api.ErrCut}, {b[:len(b)-1], api.ErrCut}, {sumTurned(b, 1), api.ErrSum}} {
		if l, e := image.Parts(c.b); e != c.code || len(l) > 0 {
			t.Errorf("Parts: %d %s, not %d", e, short(l), c.code)
		}
	}
}
