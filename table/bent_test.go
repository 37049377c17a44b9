package table_test

import (
	"math/rand"
	"testing"

	"granary/api"
	"granary/item"
)

// every makes each call of the table with these handles and keys; what is answered is not looked at.
func every(w *world, handles []api.Handle, keys []string) {
	for _, k := range keys {
		w.table.Find([]byte(k))
	}
	for i, h := range handles {
		w.table.Swap(h, handles[(i+1)%len(handles)])
		w.table.Put(h)
		w.table.Take(h)
		w.table.Put(h)
	}
	w.table.Step(3)
	w.table.Step(1 << 40)
	if w.table.Len() < 0 || w.table.Moving() != 0 {
		w.Errorf("Len %d, Moving %d", w.table.Len(), w.table.Moving())
	}
}

// R1: calls end, though the links of a chain were bent into a ring: of all, of some, of one with itself.
func TestRings(t *testing.T) {
	keys := alike(9, 64)
	for to := range 7 {
		for from := range 7 {
			for _, crowd := range []int{0, 18, 90} { // so that a move is to go on over the ring, or none
				w := begun(t, plain())
				all := w.put(keys[:7]...)
				w.fill(crowd)
				w.is("item.SetLink", item.SetLink(w.set, all[from], 0, all[to]), api.OK)
				extra := w.laid(0, keys[7])
				every(w, append(all, extra), keys)
			}
		}
	}
}

// R1: calls end, though the chunk of an item that is in the table was given, and others lie in it now.
func TestGivenUnderneath(t *testing.T) {
	keys := alike(9, 64)
	for i := range 7 {
		for _, again := range []string{"", keys[i], keys[8], "other"} {
			for _, crowd := range []int{0, 18, 90} {
				w := begun(t, plain())
				all := w.put(keys[:7]...)
				w.fill(crowd)
				w.is("class.Give", w.set.Give(all[i]), api.OK)
				if again != "" {
					all = append(all, w.laid(0, again))
				}
				every(w, append(all, w.laid(0, keys[7])), keys)
			}
		}
	}
}

// spoil does what nobody may do with an item that is in the table.
func spoil(w *world, r *rand.Rand, handles []api.Handle) {
	h, other := handles[r.Intn(len(handles))], handles[r.Intn(len(handles))]
	switch r.Intn(6) {
	case 0:
		w.set.Give(h)
	case 1:
		item.Lay(w.set, h, api.Item{Key: []byte(key(r.Intn(60))), State: api.None})
	case 2:
		item.SetLink(w.set, h, 0, 0)
	case 3:
		if place, _, e := w.set.At(h); e == api.OK {
			w.set.Arena().Fill(place+r.Intn(12), 1, byte(r.Intn(256)))
			w.set.Arena().Fill(place+16+r.Intn(48), 1, byte(r.Intn(256)))
		}
	default:
		item.SetLink(w.set, h, 0, other)
	}
}

// R1: whatever is done to the items, each call ends, and none panics.
func TestSpoiled(t *testing.T) {
	for seed := range int64(60) {
		w, r := begun(t, plain()), rand.New(rand.NewSource(seed))
		handles := w.fill(30)
		for range 600 {
			h, other := handles[r.Intn(len(handles))], handles[r.Intn(len(handles))]
			switch r.Intn(7) {
			case 0:
				spoil(w, r, handles)
			case 1:
				if h, e := w.set.Take(0); e == api.OK {
					w.lay(h, key(r.Intn(60)))
					handles = append(handles, h)
				}
			case 2:
				w.table.Take(h)
			case 3:
				w.table.Swap(h, other)
			case 4:
				w.table.Step(r.Intn(9))
			default:
				w.table.Put(h)
			}
			if w.table.Len() < 0 {
				t.Fatal("Len:", w.table.Len())
			}
		}
		for i := range 60 {
			w.table.Find([]byte(key(i)))
		}
		every(w, handles, nil)
	}
}
