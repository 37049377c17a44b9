package queue_test

import (
	"math/rand"
	"slices"
	"testing"

	"granary/api"
	"granary/item"
	"granary/queue"
)

// every makes each call of the lists with these handles; what is answered is not looked at.
func every(w *world, handles []api.Handle) {
	for _, h := range handles {
		w.queue.Ahead(h)
		w.queue.Behind(h)
		w.queue.Push(h, api.Hot)
		w.queue.Last(h, api.Cold)
		w.lists()
		w.queue.Shift(h, api.Warm)
		w.queue.Shift(h, api.Warm)
		w.queue.Drop(h)
		w.queue.Drop(h)
		w.queue.Last(h, api.Warm)
	}
	w.lists()
}

// tellsFew: does a range over a spoilt list of five come to its end, and tell none that is no handle?
func (w *world) tellsFew() {
	w.Helper()
	if got := w.all(0, api.Hot); len(got) > 5 || slices.Contains(got, 0) {
		w.Fatalf("of five items: %d", got)
	}
}

// R1, P6.8: calls end, though the links of a list were bent: each to each.
func TestRings(t *testing.T) {
	for from := range 5 {
		for to := range 5 {
			for which := 1; which <= 2; which++ {
				w := begun(t, plain())
				row := w.row(0, api.Hot, 5)
				w.is("item.SetLink", item.SetLink(w.set, row[from], which, row[to]), api.OK)
				w.tellsFew()
				every(w, row)
			}
		}
	}
}

// R1, P6.8: calls end, though the chunk of an item was given while that stood in a list, and others lie in it now.
func TestGivenUnderneath(t *testing.T) {
	for i := range 5 {
		for again := range 3 {
			w := begun(t, plain())
			row := w.row(0, api.Hot, 5)
			w.is("class.Give", w.set.Give(row[i]), api.OK)
			switch again {
			case 1:
				row = append(row, w.taken(0))
			case 2:
				row = append(row, w.laid(0, "n"))
			}
			w.tellsFew()
			every(w, row)
		}
	}
}

// spoil does what nobody may do with an item that stands in a list.
func spoil(w *world, r *rand.Rand, handles []api.Handle) {
	h, other := handles[r.Intn(len(handles))], handles[r.Intn(len(handles))]
	switch r.Intn(6) {
	case 0:
		w.set.Give(h)
	case 1:
		item.Lay(w.set, h, api.Item{Key: []byte("n"), State: 1 + r.Intn(4)})
	case 2:
		item.SetState(w.set, h, 1+r.Intn(4))
	case 3:
		if place, _, e := w.set.At(h); e == api.OK {
			w.set.Arena().Fill(place+r.Intn(12), 1, byte(r.Intn(256)))
			w.set.Arena().Fill(place+16+r.Intn(48), 1, byte(r.Intn(256)))
		}
	default:
		item.SetLink(w.set, h, 1+r.Intn(2), other)
	}
}

// R1, P6.8: whatever is done to the items, by a second Set too, each call ends, and none panics.
func TestSpoiled(t *testing.T) {
	for seed := range int64(60) {
		w, r := begun(t, plain()), rand.New(rand.NewSource(seed))
		handles := append(w.row(0, api.Hot, 20), w.row(1, api.Warm, 10)...)
		second, e := queue.New(w.set)
		w.is("New", e, api.OK)
		for range 600 {
			h, kind := handles[r.Intn(len(handles))], 1+r.Intn(3)
			switch r.Intn(9) {
			case 0:
				spoil(w, r, handles)
			case 1:
				if h, e := w.set.Take(r.Intn(classes)); e == api.OK {
					item.Lay(w.set, h, api.Item{Key: []byte("n"), State: 1 + r.Intn(4)})
					handles = append(handles, h)
				}
			case 2:
				w.queue.Drop(h)
			case 3:
				w.queue.Shift(h, kind)
			case 4:
				w.queue.Last(h, kind)
			case 5:
				w.queue.Push(h, kind)
			case 6:
				second.Push(h, kind)
				second.Shift(h, kind)
			case 7:
				second.Drop(h)
			default:
				w.lists()
			}
		}
		every(w, handles)
	}
}
