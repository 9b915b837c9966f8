package tick

import "tappet/api"

// nobody stands for no ISR.
const nobody = -1

// isrRow is what a board knows of an ISR.
type isrRow struct {
	category int
	priority int
}

// passes tells whether a gate lets an ISR through (P21.5).
func (x isrRow) passes(g api.Gate) bool {
	return !g.Shut && g.All == 0 && (x.category != 2 || g.Os == 0)
}

// requests has a bit of each ISR that there may be: whether it is requested.
type requests [(api.MaxIsrs + 7) / 8]uint8

func (r requests) has(isr int) bool { return r[isr/8]>>(isr%8)&1 == 1 }

func (r *requests) add(isr int) { r[isr/8] |= 1 << (isr % 8) }

func (r *requests) remove(isr int) { r[isr/8] &^= 1 << (isr % 8) }

func (b *Board) isIsr(isr int) bool { return !b.none() && isr >= 0 && isr < len(b.isrs) }

// Request requests an ISR (P21.5).
func (b *Board) Request(isr int) api.Status {
	if !b.isIsr(isr) {
		return api.EID
	}
	b.requests.add(isr)
	return api.EOK
}

// Requested answers those that are requested (P21.5).
func (b *Board) Requested() []int {
	if b.none() {
		return nil
	}
	var ids []int
	for id := range b.isrs {
		if b.requests.has(id) {
			ids = append(ids, id)
		}
	}
	return ids
}

// Next answers the ISR to be taken above a level (P21.5).
func (b *Board) Next(level int, g api.Gate) (int, bool) {
	if b.none() {
		return nobody, false
	}
	best := nobody
	for id, x := range b.isrs {
		if b.requests.has(id) && x.priority > level && x.passes(g) {
			best, level = id, x.priority // those behind must be above it
		}
	}
	return best, best != nobody
}

// Serve takes a request away (P21.5).
func (b *Board) Serve(isr int) api.Errno {
	if b.none() {
		return api.ErrNil
	}
	if !b.isIsr(isr) || !b.requests.has(isr) {
		return api.ErrArg
	}
	b.requests.remove(isr)
	return api.OK
}
