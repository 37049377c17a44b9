package queue_test

import (
	"math"
	"testing"

	"granary/api"
	"granary/class"
	"granary/item"
	"granary/queue"
)

// notGood are handles that are not good beside a good one: no chunk's number, the middle of a chunk, a free chunk, behind the last page, generations that were and that were not yet.
func notGood(w *world, h api.Handle) []api.Handle {
	given := w.laid(0, "given")
	w.is("class.Give", w.set.Give(given), api.OK)
	again := w.laid(0, "given")
	w.is("class.Give", w.set.Give(again), api.OK)
	return []api.Handle{0, 2, h + 4, given, again, given + 2<<32, given + 8, 1026, 1537, h + 1<<32, h | 1<<63, 1 << 32, math.MaxUint64}
}

// notKinds are numbers that are no list's kind.
func notKinds() []int { return []int{math.MinInt, -1, api.Free, api.None, 5, 9, 257, math.MaxInt} }

// P6.2 to P6.4, R3: what is refused, with which error, whatever else is wrong; nothing has changed behind it.
func TestRefusals(t *testing.T) {
	for n := range 4 {
		w := begun(t, plain())
		row := w.row(0, api.Warm, n)
		out, bare := w.laid(0, "out"), w.taken(0)
		bad := append(notGood(w, out), bare)
		w.stands("what was refused", func() {
			for _, kind := range notKinds() {
				for _, h := range append(append(bad, out), row...) {
					w.is("Push to no list", w.queue.Push(h, kind), api.ErrArg)
					w.is("Last to no list", w.queue.Last(h, kind), api.ErrArg)
					w.is("Shift to no list", w.queue.Shift(h, kind), api.ErrArg)
				}
			}
			for kind := api.Hot; kind <= api.Cold; kind++ {
				for _, h := range bad {
					w.is("Push of no item", w.queue.Push(h, kind), api.ErrHandle)
					w.is("Last of no item", w.queue.Last(h, kind), api.ErrHandle)
					w.is("Shift of no item", w.queue.Shift(h, kind), api.ErrHandle)
					w.is("Drop of no item", w.queue.Drop(h), api.ErrHandle)
				}
				for _, h := range row {
					w.is("Push of what stands in a list", w.queue.Push(h, kind), api.ErrTwice)
					w.is("Last of what stands in a list", w.queue.Last(h, kind), api.ErrTwice)
				}
				w.is("Shift of what stands nowhere", w.queue.Shift(out, kind), api.ErrHandle)
			}
			w.is("Drop of what stands nowhere", w.queue.Drop(out), api.ErrHandle)
		})
		w.holds(0, api.Warm, row...)
	}
}

// P6.5, P6.6: of classes and kinds that there are not, of handles that are not good, and of items that stand nowhere nothing is told.
func TestNothingToTell(t *testing.T) {
	w := begun(t, plain())
	for kind := api.Hot; kind <= api.Cold; kind++ {
		for c := range classes {
			w.row(c, kind, 2)
		}
	}
	out, bare := w.laid(0, "out"), w.taken(0)
	bad := append(notGood(w, out), bare)
	w.stands("what only tells", func() {
		for _, kind := range append(notKinds(), 1, 2, 3) {
			for _, c := range []int{math.MinInt, -1, 3, 99, math.MaxInt} {
				w.holds(c, kind)
			}
		}
		for _, kind := range notKinds() {
			for c := range classes {
				w.holds(c, kind)
			}
		}
		for _, h := range bad {
			w.ahead(h, 0)
			w.behind(h, 0)
		}
		w.nowhere(out)
	})
}

// P6.5: an item's links tell no neighbours, where it stands in no list.
func TestLinksOfWhatStandsNowhere(t *testing.T) {
	w := begun(t, plain())
	row := w.row(0, api.Hot, 2)
	out := w.laid(0, "out")
	for which := 1; which <= 2; which++ {
		w.is("item.SetLink", item.SetLink(w.set, out, which, row[which-1]), api.OK)
	}
	w.ahead(out, 0)
	w.behind(out, 0)
	w.is("Drop", w.queue.Drop(out), api.ErrHandle)
	w.is("Push", w.queue.Push(out, 1), api.OK)
	w.holds(0, api.Hot, out, row[0], row[1])
	w.is("Drop", w.queue.Drop(out), api.OK)
	w.is("item.SetLink", item.SetLink(w.set, out, 2, row[0]), api.OK)
	w.is("Last", w.queue.Last(out, 1), api.OK)
	w.holds(0, api.Hot, row[0], row[1], out)
}

// P6.2: an item that was laid with another state than None counts as standing in a list.
func TestLaidAsStanding(t *testing.T) {
	for state := api.Hot; state <= api.Cold; state++ {
		w := begun(t, plain())
		h := w.taken(0)
		w.is("item.Lay", item.Lay(w.set, h, api.Item{Key: []byte("k"), State: state}), api.OK)
		w.is("Push", w.queue.Push(h, api.Hot), api.ErrTwice)
		w.is("Last", w.queue.Last(h, api.Cold), api.ErrTwice)
		w.holds(0, state)
	}
}

// R1: a set that New did not give has no classes, and so there are no lists.
func TestEmptySet(t *testing.T) {
	q, e := queue.New(&class.Set{})
	if e != api.OK || q == nil {
		t.Fatal("New:", e)
	}
	w := &world{t, &class.Set{}, q}
	for _, h := range []api.Handle{0, 1, math.MaxUint64} {
		w.is("Push", q.Push(h, 1), api.ErrHandle)
		w.is("Last", q.Last(h, 1), api.ErrHandle)
		w.is("Shift", q.Shift(h, 1), api.ErrHandle)
		w.is("Drop", q.Drop(h), api.ErrHandle)
		w.ahead(h, 0)
		w.behind(h, 0)
	}
	w.holds(0, 1)
}
