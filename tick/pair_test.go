package tick_test

import (
	"slices"
	"testing"

	"tappet/api"
	"tappet/tick"
)

// pair is a board and the book that it must be like.
type pair struct {
	b *tick.Board
	k *book
}

func newPair(t *testing.T, x api.Tables) *pair {
	t.Helper()
	return &pair{made(t, x), newBook(x)}
}

func (p *pair) copied(t *testing.T) *pair {
	t.Helper()
	q := &pair{p.b.Copy(), p.k.copy()}
	if q.b == nil || q.b == p.b {
		t.Fatal("no copy of its own")
	}
	return q
}

func (p *pair) stands(t *testing.T) {
	t.Helper()
	stands(t, p.b, p.k)
}

func (p *pair) tick(t *testing.T, counter int) {
	t.Helper()
	want, err := p.k.tick(counter)
	if l, e := p.b.Tick(counter); !slices.Equal(l, want) || e != err {
		t.Fatalf("Tick(%d): %v %d, not %v %d", counter, l, e, want, err)
	}
}

func (p *pair) rel(t *testing.T, n int, figure, cycle uint32) {
	t.Helper()
	if s, want := p.b.Rel(n, figure, cycle), p.k.rel(n, figure, cycle); s != want {
		t.Fatalf("Rel(%d, %d, %d): %d, not %d", n, figure, cycle, s, want)
	}
}

func (p *pair) abs(t *testing.T, n int, figure, cycle uint32) {
	t.Helper()
	if s, want := p.b.Abs(n, figure, cycle), p.k.abs(n, figure, cycle); s != want {
		t.Fatalf("Abs(%d, %d, %d): %d, not %d", n, figure, cycle, s, want)
	}
}

func (p *pair) cancel(t *testing.T, n int) {
	t.Helper()
	is(t, "Cancel", p.b.Cancel(n), p.k.cancel(n))
}

func (p *pair) auto(t *testing.T, mode int) {
	t.Helper()
	want, err := p.k.auto(mode)
	if n, e := p.b.Auto(mode); n != want || e != err {
		t.Fatalf("Auto(%d): %d %d, not %d %d", mode, n, e, want, err)
	}
}

func (p *pair) request(t *testing.T, n int) {
	t.Helper()
	is(t, "Request", p.b.Request(n), p.k.request(n))
}

func (p *pair) next(t *testing.T, level int, g api.Gate) {
	t.Helper()
	n, _ := p.k.next(level, g)
	next(t, p.b, level, g, n)
}

func (p *pair) serve(t *testing.T, n int) {
	t.Helper()
	answers(t, "Serve", p.b.Serve(n), p.k.serve(n))
}

func (p *pair) calm(t *testing.T) {
	t.Helper()
	answers(t, "Calm", p.b.Calm(), api.OK)
	p.k.calm()
}
