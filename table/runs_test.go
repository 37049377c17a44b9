package table_test

import (
	"testing"

	"granary/api"
	"granary/item"
	"granary/table"
)

func TestRunGrowing(t *testing.T) {
	w := begun(t, plain())
	w.counts(0, 16, 0)
	all := w.fill(24)
	w.counts(24, 16, 0)
	all = append(all, w.fill(1)...)
	w.counts(25, 32, 16)
	w.findsAll(all)
	for _, x := range [][3]int{{8, 8, 8}, {8, 8, 0}, {8, 0, 0}, {-1, 0, 0}} {
		w.steps(x[0], x[1])
		w.counts(25, 32, x[2])
		w.findsAll(all)
	}
}

func TestRunRefusedPuts(t *testing.T) {
	w := begun(t, plain())
	h, other, bare, given := w.put("a")[0], w.laid(1, "a"), w.taken(0), w.laid(0, "b")
	w.is("class.Give", w.set.Give(given), api.OK)
	w.stands("a Put that is refused", func() {
		w.is("Put of a key that is in it", w.table.Put(other), api.ErrTwice)
		w.is("Put of h again", w.table.Put(h), api.ErrTwice)
		w.is("Put of a chunk without an item", w.table.Put(bare), api.ErrHandle)
		w.is("Put of a handle that was given", w.table.Put(given), api.ErrHandle)
	})
	w.finds("a", h)
	w.finds("b", 0)
}

func TestRunPutsInAMove(t *testing.T) {
	for _, ahead := range []int{0, 1, 8, 15} {
		w := begun(t, plain())
		all := w.fill(25)
		w.steps(ahead, ahead)
		for range 24 {
			all = append(all, w.fill(1)...)
			w.findsAll(all)
			w.counts(len(all), 32, 16-ahead)
		}
		w.steps(99, 16-ahead)
		w.counts(49, 32, 0)
		w.findsAll(all)
		all = append(all, w.fill(1)...)
		w.counts(50, 64, 32)
		w.findsAll(all)
	}
}

func TestRunShrinking(t *testing.T) {
	w := begun(t, plain())
	all := w.fill(25)
	w.steps(16, 16)
	w.take(all[4:]...)
	w.counts(4, 32, 0)
	w.take(all[3])
	w.counts(3, 16, 32)
	w.take(all[:3]...)
	w.counts(0, 16, 32)
	w.steps(31, 31)
	w.counts(0, 16, 1)
	w.steps(5, 1)
	w.counts(0, 16, 0)
	w.findsAll(make([]api.Handle, 25))
}

func TestRunSwap(t *testing.T) {
	w := begun(t, plain())
	h1, h2, other := w.put("a")[0], w.laid(1, "a"), w.laid(0, "b")
	w.is("Swap of unlike keys", w.table.Swap(h1, other), api.ErrArg)
	w.is("Swap(h1, h1)", w.table.Swap(h1, h1), api.ErrHandle)
	w.is("Swap(h1, h2)", w.table.Swap(h1, h2), api.OK)
	w.finds("a", h2)
	w.counts(1, 16, 0)
	w.is("Take h1", w.table.Take(h1), api.ErrHandle)
	w.is("Swap(h1, h2) again", w.table.Swap(h1, h2), api.ErrHandle)
}

func TestRunTake(t *testing.T) {
	w := begun(t, plain())
	h := w.put("a")[0]
	w.is("Take", w.table.Take(h), api.OK)
	w.is("Take again", w.table.Take(h), api.ErrHandle)
	w.finds("a", 0)
	w.finds("", 0)
}

func TestExamples(t *testing.T) {
	if x, e := table.New(nil); x != nil || e != api.ErrArg {
		t.Error("New(nil):", x, e)
	}
	w := begun(t, plain())
	h := w.put("a")[0]
	w.is("Put", w.table.Put(w.laid(0, "a")), api.ErrTwice)
	w.counts(1, 16, 0)
	w.is("item.SetToken", item.SetToken(w.set, h, 99), api.OK)
	w.finds("a", h)
}
