package tide

import "granary/api"

// entry is a handle with its expiry; of all that were set it is the turn-th.
type entry struct {
	handle api.Handle
	expiry int
	turn   int
}

// ahead: is the entry told ahead of that one?
func (e entry) ahead(of entry) bool {
	if e.expiry != of.expiry {
		return e.expiry < of.expiry
	}
	return e.turn < of.turn
}

// heap is a row in which no entry is told ahead of the one above it.
type heap struct {
	rows   []entry
	places map[api.Handle]int
}

func empty() heap { return heap{places: map[api.Handle]int{}} }

func above(at int) int { return (at - 1) / 2 }
func left(at int) int  { return 2*at + 1 }
func right(at int) int { return 2*at + 2 }

// add takes in the entry of a handle that has none.
func (p *heap) add(e entry) {
	p.rows = append(p.rows, e)
	p.rise(e, len(p.rows)-1)
}

// remove takes a handle's entry out, if it has one: the last entry fills its place.
func (p *heap) remove(h api.Handle) bool {
	at, ok := p.places[h]
	if !ok {
		return false
	}
	delete(p.places, h)
	end := len(p.rows) - 1
	last := p.rows[end]
	p.rows = p.rows[:end]
	if at < end {
		p.fill(last, at)
	}
	return true
}

// fill lays an entry where there is a gap. It may come from another branch, so that it belongs further up as well as further down.
func (p *heap) fill(e entry, at int) {
	if at > 0 && e.ahead(p.rows[above(at)]) {
		p.rise(e, at)
		return
	}
	p.sink(e, at)
}

// rise lays an entry at the gap, or above it.
func (p *heap) rise(e entry, at int) {
	for at > 0 && e.ahead(p.rows[above(at)]) {
		p.lay(p.rows[above(at)], at)
		at = above(at)
	}
	p.lay(e, at)
}

// sink lays an entry at the gap, or below it.
func (p *heap) sink(e entry, at int) {
	for {
		next, ok := p.below(at)
		if !ok || e.ahead(p.rows[next]) {
			break
		}
		p.lay(p.rows[next], at)
		at = next
	}
	p.lay(e, at)
}

// below is the place of the entry that is told first of those right below.
func (p *heap) below(at int) (int, bool) {
	l, r := left(at), right(at)
	if l >= len(p.rows) {
		return 0, false
	}
	if r < len(p.rows) && p.rows[r].ahead(p.rows[l]) {
		return r, true
	}
	return l, true
}

// lay lays an entry at a place, and notes where it is.
func (p *heap) lay(e entry, at int) {
	p.rows[at] = e
	p.places[e.handle] = at
}
