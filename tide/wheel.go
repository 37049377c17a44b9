package tide

import "granary/api"

// Wheel holds what expires, by handle.
type Wheel struct {
	heap
	sets int // how many entries were set: entries of one expiry are told by it
}

// NewWheel makes an empty wheel.
func NewWheel() *Wheel { return &Wheel{heap: empty()} }

// Set gives a handle its expiry; none, if that is below 1.
func (w *Wheel) Set(h api.Handle, expiry int) {
	w.remove(h)
	if expiry < 1 {
		return
	}
	w.sets++
	w.add(entry{h, expiry, w.sets})
}

// Take takes a handle's entry away; it tells whether there was one.
func (w *Wheel) Take(h api.Handle) bool { return w.remove(h) }

// First is the entry that expires first.
func (w *Wheel) First() (h api.Handle, expiry int, ok bool) {
	if len(w.rows) == 0 {
		return 0, 0, false
	}
	return w.rows[0].handle, w.rows[0].expiry, true
}

// Due tells what has expired, the first most of it. The entries that may come next are held in a heap of their own, so that the work hangs on what is told and not on what stands in the wheel.
func (w *Wheel) Due(now, most int) []api.Handle {
	var due []api.Handle
	near := empty()
	w.lend(&near, 0, now)
	for len(near.rows) > 0 && len(due) < most {
		h := near.rows[0].handle
		near.remove(h)
		due = append(due, h)
		at := w.places[h]
		w.lend(&near, left(at), now)
		w.lend(&near, right(at), now)
	}
	return due
}

// lend lays a copy of the entry at a place, if there is one and it is due, into another heap.
func (w *Wheel) lend(to *heap, at, now int) {
	if at < len(w.rows) && w.rows[at].expiry <= now {
		to.add(w.rows[at])
	}
}

// Len is how many entries there are.
func (w *Wheel) Len() int { return len(w.rows) }
