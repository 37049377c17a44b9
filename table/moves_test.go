package table_test

import (
	"testing"

	"granary/api"
	"granary/item"
)

// P5.4: a growth begins with the first Put behind which there are more than three items to two buckets, at each size.
func TestGrowthThresholds(t *testing.T) {
	w := begun(t, roomy())
	var all []api.Handle
	for buckets := 16; buckets <= 256; buckets *= 2 {
		all = append(all, w.fill(3*buckets/2-len(all))...)
		w.counts(3*buckets/2, buckets, 0)
		all = append(all, w.fill(1)...)
		w.counts(3*buckets/2+1, 2*buckets, buckets)
		w.steps(buckets, buckets)
		w.counts(3*buckets/2+1, 2*buckets, 0)
		w.findsAll(all)
	}
}

// P5.4: a shrinking begins with the first Take behind which there is less than one item to eight buckets, at each size, and never below 16 buckets.
func TestShrinkThresholds(t *testing.T) {
	w := begun(t, roomy())
	all := w.fill(400)
	for w.table.Moving() > 0 || w.table.Buckets() < 512 {
		w.table.Step(999)
		extra := w.laid(0, "extra")
		w.is("Put", w.table.Put(extra), api.OK)
		w.take(extra)
		w.is("class.Give", w.set.Give(extra), api.OK)
	}
	for buckets := 512; buckets > 16; buckets /= 2 {
		for w.table.Len() > buckets/8 {
			w.take(all[w.table.Len()-1])
			w.counts(w.table.Len(), buckets, 0)
		}
		w.take(all[w.table.Len()-1])
		w.counts(buckets/8-1, buckets/2, buckets)
		w.steps(buckets+1, buckets)
		w.findsAll(all[:w.table.Len()])
	}
	w.take(all[:3]...)
	w.counts(0, 16, 0)
	w.findsAll(make([]api.Handle, 400))
}

// P5.4: neither a refused call nor a Step, a Find or a Swap begins a move; an answered one does at once.
func TestWhatBegins(t *testing.T) {
	w := begun(t, plain())
	all := w.fill(25)
	all = append(all, w.fill(24)...)
	w.counts(49, 32, 16)
	w.steps(16, 16)
	twin, bare := w.laid(1, key(0)), w.taken(0)
	w.is("Put", w.table.Put(twin), api.ErrTwice)
	w.is("Put", w.table.Put(bare), api.ErrHandle)
	w.is("Swap", w.table.Swap(all[0], twin), api.OK)
	w.finds(key(0), twin)
	w.steps(9, 0)
	w.counts(49, 32, 0)
	w.take(all[48])
	w.counts(48, 32, 0)
	w.is("Put", w.table.Put(all[48]), api.OK)
	w.counts(49, 64, 32)
}

// P5.4: a Put begins no shrinking, a Take no growth, and neither anything while a move goes on.
func TestNothingBeginsInAMove(t *testing.T) {
	w := begun(t, plain())
	all := w.fill(25)
	w.take(all[1:]...)
	w.counts(1, 32, 16)
	w.steps(16, 16)
	w.is("Put", w.table.Put(all[1]), api.OK)
	w.counts(2, 32, 0)
	w.is("Take", w.table.Take(all[0]), api.OK)
	w.counts(1, 16, 32)
	all = append(all, w.fill(60)...)
	w.counts(61, 16, 32)
	w.steps(31, 31)
	more := w.fill(1)
	w.counts(62, 16, 1)
	w.steps(31, 1)
	w.take(more...)
	w.counts(61, 16, 0)
	w.is("Put", w.table.Put(more[0]), api.OK)
	w.counts(62, 32, 16)
	all = append(all, more...)
	all[0] = 0
	for i := 2; i < 25; i++ {
		all[i] = 0
	}
	w.findsAll(all)
}

// P5.5: by whatever steps a move goes on, every item is found at every moment, and Moving is less by what is answered.
func TestStepSizes(t *testing.T) {
	for _, n := range []int{1, 2, 3, 5, 8, 16, 17, 31, 33, 100} {
		w := begun(t, plain())
		all := w.fill(97)
		w.counts(97, 32, 16)
		w.steps(99, 16)
		all = append(all, w.fill(1)...)
		for left := 32; left > 0; left -= n {
			w.counts(98, 64, left)
			w.steps(n, min(n, left))
			w.findsAll(all)
		}
		w.counts(98, 64, 0)
		w.take(all[7:]...)
		w.counts(7, 32, 64)
		clear(all[7:])
		for left := 64; left > 0; left -= n {
			w.counts(7, 32, left)
			w.steps(n, min(n, left))
			w.findsAll(all)
		}
		w.counts(7, 32, 0)
	}
}

// P5.9: with Step(8) behind each Put a growth from b buckets is through b / 8 calls later, long ahead of the next one.
func TestGrowthInPace(t *testing.T) {
	w := begun(t, roomy())
	var all []api.Handle
	growths, ends := 0, 0
	for len(all) < 600 {
		buckets := w.table.Buckets()
		all = append(all, w.fill(1)...)
		if now := w.table.Buckets(); now > buckets {
			growths++
			if len(all) != 3*buckets/2+1 {
				t.Fatalf("a growth from %d begins with %d items", buckets, len(all))
			}
			ends = len(all) + buckets/8
		}
		w.table.Step(8)
		if len(all) >= ends-1 && w.table.Moving() > 0 {
			t.Fatalf("with %d items the move is not through", len(all))
		}
	}
	w.findsAll(all)
	if growths != 5 {
		t.Errorf("%d growths", growths)
	}
}

// P5.9: a shrinking that meets its next threshold ahead of its end; the next one begins with the first Take behind it.
func TestShrinkInPace(t *testing.T) {
	w := begun(t, plain())
	all := w.fill(25)
	w.steps(16, 16)
	all = append(all, w.fill(24)...)
	w.steps(32, 32)
	w.counts(49, 64, 0)
	w.take(all[8:]...)
	w.counts(8, 64, 0)
	for i := 7; i > 0; i-- {
		w.take(all[i])
		w.counts(i, 32, 64-8*(7-i))
		w.steps(8, 8)
	}
	w.counts(1, 32, 8)
	w.steps(8, 8)
	w.counts(1, 32, 0)
	w.finds(key(0), all[0])
	w.take(all[0])
	w.counts(0, 16, 32)
}

// P5.3: link 0 of what was taken out is to none, wherever in its chain it stood; all others are found yet.
func TestTakeOutOfAChain(t *testing.T) {
	keys := alike(7, 16)
	for i := range keys {
		w := begun(t, plain())
		all := w.put(keys...)
		w.take(all[i])
		w.none(all[i])
		all[i] = 0
		for j, k := range keys {
			w.finds(k, all[j])
		}
		w.counts(6, 16, 0)
	}
}

// P5.3: the same of Swap; the new item's link 0 may have led anywhere ahead of it.
func TestSwapInAChain(t *testing.T) {
	keys := alike(7, 16)
	for i := range keys {
		w := begun(t, plain())
		all := w.put(keys...)
		old, h := all[i], w.laid(1, keys[i])
		w.is("item.SetLink", item.SetLink(w.set, h, 0, all[(i+3)%7]), api.OK)
		w.is("Swap", w.table.Swap(old, h), api.OK)
		w.none(old)
		all[i] = h
		for j, k := range keys {
			w.finds(k, all[j])
		}
		w.is("Take of what was swapped out", w.table.Take(old), api.ErrHandle)
		w.is("Put of what was swapped out", w.table.Put(old), api.ErrTwice)
		w.is("Swap back", w.table.Swap(h, old), api.OK)
		w.none(h)
		w.finds(keys[i], old)
		w.counts(7, 16, 0)
	}
}

// P5.3: Put believes no link that the item had ahead of it, were it to itself.
func TestPutWithLinks(t *testing.T) {
	w := begun(t, plain())
	keys := alike(3, 16)
	first := w.put(keys[0])[0]
	for _, k := range keys[1:] {
		h := w.laid(0, k)
		w.is("item.SetLink", item.SetLink(w.set, h, 0, h), api.OK)
		w.is("Put", w.table.Put(h), api.OK)
		w.finds(k, h)
	}
	w.finds(keys[0], first)
	w.finds(alike(4, 16)[3], 0)
	w.take(first)
	w.none(first)
}

// Whose the links are: all else may be done with an item that is in the table, and once out it may be laid anew, or its chunk given.
func TestAllElseMayBeDone(t *testing.T) {
	w := begun(t, plain())
	all := w.fill(25)
	w.steps(5, 5)
	for i, h := range all {
		w.is("item.Value", item.Value(w.set, h, []byte{byte(i)}), api.OK)
		w.is("item.SetToken", item.SetToken(w.set, h, 1<<63), api.OK)
		w.is("item.SetFlags", item.SetFlags(w.set, h, 1<<32-1), api.OK)
		w.is("item.SetExpiry", item.SetExpiry(w.set, h, 1<<40), api.OK)
		w.is("item.SetTouched", item.SetTouched(w.set, h, 1<<40), api.OK)
		w.is("item.SetState", item.SetState(w.set, h, api.Hot), api.OK)
		w.is("item.SetMarks", item.SetMarks(w.set, h, 15), api.OK)
		w.is("item.SetLink", item.SetLink(w.set, h, 1, all[(i+1)%25]), api.OK)
		w.is("item.SetLink", item.SetLink(w.set, h, 2, all[(i+24)%25]), api.OK)
	}
	w.findsAll(all)
	w.steps(99, 11)
	w.findsAll(all)
	w.take(all[0], all[1])
	w.lay(all[0], "other")
	w.is("class.Give", w.set.Give(all[1]), api.OK)
	w.is("Put", w.table.Put(all[0]), api.OK)
	w.finds("other", all[0])
	w.finds(key(0), 0)
	w.finds(key(1), 0)
	w.findsAll(append([]api.Handle{0, 0}, all[2:]...))
}
