package lru_test

import (
	"bytes"
	"slices"
	"testing"

	"granary/api"
	"granary/class"
	"granary/item"
	"granary/lru"
	"granary/queue"
)

// plain has three classes.
func plain() api.Config {
	return api.Config{PageSize: 4096, Pages: 3, Factor: 200, MinChunk: 64, ItemLimit: 256}
}

const classes = 3

// others are all marks that are not this layer's.
const others = api.MarkStale | api.MarkWon | api.MarkHit

// world is an Lru over queues of its own.
type world struct {
	*testing.T
	set   *class.Set
	queue *queue.Set
	lru   *lru.Lru
}

func begun(t *testing.T, hot, warm int) *world {
	t.Helper()
	s, e := class.New(plain())
	if e != api.OK {
		t.Fatal("class.New:", e)
	}
	q, e := queue.New(s)
	if e != api.OK {
		t.Fatal("queue.New:", e)
	}
	l, e := lru.New(s, q, hot, warm)
	if e != api.OK || l == nil {
		t.Fatal("New:", e)
	}
	return &world{t, s, q, l}
}

func (w *world) taken(c int) api.Handle {
	w.Helper()
	h, e := w.set.Take(c)
	if e != api.OK {
		w.Fatalf("class.Take(%d): %v", c, e)
	}
	return h
}

// laid is an item that stands in no queue, with all marks.
func (w *world) laid(c int) api.Handle {
	w.Helper()
	h := w.taken(c)
	w.is("item.Lay", item.Lay(w.set, h, api.Item{Key: []byte("k"), State: api.None, Marks: others | api.MarkActive}), api.OK)
	return h
}

// entered are n items of a class that enter one behind the other.
func (w *world) entered(c, n int) (all []api.Handle) {
	w.Helper()
	for range n {
		h := w.laid(c)
		w.is("Enter", w.lru.Enter(h), api.OK)
		all = append(all, h)
	}
	return all
}

// row is n items that stand in a queue from its head on, none of them active.
func (w *world) row(c, kind, n int) (all []api.Handle) {
	w.Helper()
	for range n {
		h := w.laid(c)
		w.is("item.SetMarks", item.SetMarks(w.set, h, others), api.OK)
		w.is("queue.Last", w.queue.Last(h, kind), api.OK)
		all = append(all, h)
	}
	return all
}

func (w *world) is(what string, got, must api.Errno) {
	w.Helper()
	if got != must {
		w.Errorf("%s: %v, not %v", what, got, must)
	}
}

// hit hits items.
func (w *world) hit(all ...api.Handle) {
	w.Helper()
	for _, h := range all {
		w.is("Hit", w.lru.Hit(h), api.OK)
	}
}

func (w *world) balance(c, links, must int) {
	w.Helper()
	if got := w.lru.Balance(c, links, nil); got != must {
		w.Errorf("Balance(%d, %d): %d, not %d", c, links, got, must)
	}
}

// pick: does Pick answer this?
func (w *world) pick(c int, own api.Handle, looks int, dead func(api.Handle) bool, must api.Handle, isDead bool, looked int) {
	w.Helper()
	h, ok, n := w.lru.Pick(c, own, looks, dead)
	if h != must || ok != isDead || n != looked {
		w.Errorf("Pick(%d, %d, %d): %d, %v, %d; not %d, %v, %d", c, own, looks, h, ok, n, must, isDead, looked)
	}
}

// in says of the items of a row whether they are dead.
func in(row ...api.Handle) func(api.Handle) bool {
	return func(h api.Handle) bool { return slices.Contains(row, h) }
}

func (w *world) lengths(c, hot, warm, cold int) {
	w.Helper()
	a, b, d := w.lru.Len(c)
	if a != hot || b != warm || d != cold {
		w.Errorf("Len(%d): %d %d %d, not %d %d %d", c, a, b, d, hot, warm, cold)
	}
}

// holds: has a queue of class 0 just these items, from its head on?
func (w *world) holds(kind int, must ...api.Handle) {
	w.Helper()
	if got := slices.Collect(w.queue.All(0, kind)); !slices.Equal(got, must) {
		w.Errorf("queue %d: %d, not %d", kind, got, must)
	}
}

// walk is what a range over a class tells.
func (w *world) walk(c int) []api.Handle { return slices.Collect(w.lru.Walk(c)) }

// walks: does a range over a class tell these?
func (w *world) walks(c int, must ...api.Handle) {
	w.Helper()
	if got := w.walk(c); !slices.Equal(got, must) {
		w.Errorf("Walk(%d): %d, not %d", c, got, must)
	}
}

// active: which of these items are active? Their other marks must be all there.
func (w *world) active(all []api.Handle, must ...api.Handle) {
	w.Helper()
	for _, h := range all {
		want := others
		if slices.Contains(must, h) {
			want |= api.MarkActive
		}
		if n, e := item.Marks(w.set, h); n != want || e != api.OK {
			w.Errorf("marks of %d: %d, %v; not %d", h, n, e, want)
		}
	}
}

// image is all bytes of the arena.
func (w *world) image() []byte {
	w.Helper()
	var all []byte
	for i := range w.set.Arena().Pages() {
		p, e := w.set.Arena().Page(i)
		if e != api.OK {
			w.Fatal("arena.Page:", e)
		}
		all = append(all, p...)
	}
	return all
}

// lists are the items of every queue that there is, and of some that there are not.
func (w *world) lists() (all [][]api.Handle) {
	for c := -1; c <= classes; c++ {
		for kind := -1; kind <= 5; kind++ {
			all = append(all, slices.Collect(w.queue.All(c, kind)))
		}
	}
	return all
}

// stands: does a call change no byte and no queue?
func (w *world) stands(what string, call func()) {
	w.Helper()
	must, lists := w.image(), w.lists()
	call()
	if !bytes.Equal(w.image(), must) {
		w.Errorf("%s has changed bytes of the arena", what)
	}
	if got := w.lists(); !slices.EqualFunc(got, lists, slices.Equal) {
		w.Errorf("%s has changed queues: %d, not %d", what, got, lists)
	}
}

// backward is a row from its end on.
func backward(row []api.Handle) []api.Handle {
	row = slices.Clone(row)
	slices.Reverse(row)
	return row
}
