package queue_test

import (
	"bytes"
	"slices"
	"testing"

	"granary/api"
	"granary/class"
	"granary/item"
	"granary/queue"
)

// plain has three classes.
func plain() api.Config {
	return api.Config{PageSize: 4096, Pages: 3, Factor: 200, MinChunk: 64, ItemLimit: 256}
}

const classes = 3

// world is a set of lists over a set of chunks of its own.
type world struct {
	*testing.T
	set   *class.Set
	queue *queue.Set
}

func begun(t *testing.T, c api.Config) *world {
	t.Helper()
	s, e := class.New(c)
	if e != api.OK {
		t.Fatal("class.New:", e)
	}
	q, e := queue.New(s)
	if e != api.OK || q == nil {
		t.Fatal("New:", e)
	}
	return &world{t, s, q}
}

func (w *world) taken(c int) api.Handle {
	w.Helper()
	h, e := w.set.Take(c)
	if e != api.OK {
		w.Fatalf("class.Take(%d): %v", c, e)
	}
	return h
}

// laid is an item that stands in no list.
func (w *world) laid(c int, key string) api.Handle {
	w.Helper()
	h := w.taken(c)
	w.is("item.Lay", item.Lay(w.set, h, api.Item{Key: []byte(key), State: api.None}), api.OK)
	return h
}

// row is n items of a class that stand in a list, from the head on.
func (w *world) row(c, kind, n int) (all []api.Handle) {
	w.Helper()
	for range n {
		h := w.laid(c, "k")
		w.is("Last", w.queue.Last(h, kind), api.OK)
		all = append(all, h)
	}
	return all
}

func (w *world) is(what string, got, must api.Errno) {
	w.Helper()
	if got != must {
		w.Errorf("%s: %v, not %v", what, got, must)
	}
}

// told: is this the handle that a call told? With 0: none.
func (w *world) told(what string, h api.Handle, ok bool, must api.Handle) {
	w.Helper()
	if h != must || ok != (must != 0) {
		w.Errorf("%s: %d, %v; not %d", what, h, ok, must)
	}
}

// head, tail, ahead and behind: is this what is told? With 0: none.

func (w *world) head(c, kind int, must api.Handle) {
	w.Helper()
	h, ok := w.queue.Head(c, kind)
	w.told("Head", h, ok, must)
}

func (w *world) tail(c, kind int, must api.Handle) {
	w.Helper()
	h, ok := w.queue.Tail(c, kind)
	w.told("Tail", h, ok, must)
}

func (w *world) ahead(of, must api.Handle) {
	w.Helper()
	h, ok := w.queue.Ahead(of)
	w.told("Ahead", h, ok, must)
}

func (w *world) behind(of, must api.Handle) {
	w.Helper()
	h, ok := w.queue.Behind(of)
	w.told("Behind", h, ok, must)
}

// all is what a range over a list tells.
func (w *world) all(c, kind int) []api.Handle { return slices.Collect(w.queue.All(c, kind)) }

// holds: does a list have just these items, by all that is told of it and by what stands in their headers?
func (w *world) holds(c, kind int, must ...api.Handle) {
	w.Helper()
	if got := w.all(c, kind); !slices.Equal(got, must) {
		w.Fatalf("All(%d, %d): %d, not %d", c, kind, got, must)
	}
	if n := w.queue.Len(c, kind); n != len(must) {
		w.Errorf("Len(%d, %d): %d, not %d", c, kind, n, len(must))
	}
	row := append(append([]api.Handle{0}, must...), 0) // 0 at both ends
	w.head(c, kind, row[1])
	w.tail(c, kind, row[len(must)])
	for i, h := range must {
		w.ahead(h, row[i])
		w.behind(h, row[i+2])
		w.header(h, kind, row[i], row[i+2])
	}
}

// header: are these the state and the links of an item?
func (w *world) header(h api.Handle, state int, links ...api.Handle) {
	w.Helper()
	if n, e := item.State(w.set, h); n != state || e != api.OK {
		w.Errorf("state of %d: %d, %v; not %d", h, n, e, state)
	}
	for i, must := range links {
		if to, e := item.Link(w.set, h, i+1); to != must || e != api.OK {
			w.Errorf("link %d of %d: %d, %v; not %d", i+1, h, to, e, must)
		}
	}
}

// nowhere: is an item in no list, by all that is told of it?
func (w *world) nowhere(h api.Handle) {
	w.Helper()
	w.ahead(h, 0)
	w.behind(h, 0)
	w.header(h, api.None, 0, 0)
}

// image is all bytes of the arena.
func (w *world) image() []byte {
	w.Helper()
	var all []byte
	for i := range w.set.Arena().Pages() {
		p, e := w.set.Arena().Page(i)
		if e != api.OK {
			w.Fatal("arena.Page:", e)
		}
		all = append(all, p...)
	}
	return all
}

// lists are the items of every list that there is, and of some that there are not.
func (w *world) lists() (all [][]api.Handle) {
	for c := -1; c <= classes; c++ {
		for kind := -1; kind <= 5; kind++ {
			all = append(all, w.all(c, kind))
		}
	}
	return all
}

// stands: does a call change no byte and no list?
func (w *world) stands(what string, call func()) {
	w.Helper()
	must, lists := w.image(), w.lists()
	call()
	if !bytes.Equal(w.image(), must) {
		w.Errorf("%s has changed bytes of the arena", what)
	}
	if got := w.lists(); !slices.EqualFunc(got, lists, slices.Equal) {
		w.Errorf("%s has changed lists: %d, not %d", what, got, lists)
	}
}
