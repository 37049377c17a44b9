package crawl_test

import (
	"bytes"
	"math"
	"slices"
	"testing"

	"granary/api"
	"granary/class"
	"granary/crawl"
	"granary/item"
	"granary/queue"
	"granary/tide"
)

// plain has three classes.
func plain() api.Config {
	return api.Config{PageSize: 4096, Pages: 6, Factor: 200, MinChunk: 64, ItemLimit: 256}
}

const classes = 3

// world is a Crawler over lists and a wheel of its own; it notes of whom dead was asked, and with whom take was called.
type world struct {
	*testing.T
	set          *class.Set
	queue        *queue.Set
	wheel        *tide.Wheel
	crawl        *crawl.Crawler
	now          int
	expiry       map[api.Handle]int
	name         map[api.Handle]string
	asked, taken []api.Handle
}

func begun(t *testing.T, n int) *world {
	t.Helper()
	return over(t, plain(), n)
}

func over(t *testing.T, c api.Config, n int) *world {
	t.Helper()
	s, e := class.New(c)
	if e != api.OK {
		t.Fatal("class.New:", e)
	}
	q, e := queue.New(s)
	if e != api.OK {
		t.Fatal("queue.New:", e)
	}
	w := &world{T: t, set: s, queue: q, wheel: tide.NewWheel(), now: 1, expiry: map[api.Handle]int{}, name: map[api.Handle]string{}}
	w.crawl, e = crawl.New(q, w.wheel, n, w.dead, w.take)
	if e != api.OK || w.crawl == nil {
		t.Fatal("New:", e)
	}
	return w
}

// dead: an item is dead from its expiry on.
func (w *world) dead(h api.Handle) bool {
	w.asked = append(w.asked, h)
	return w.expiry[h] > 0 && w.expiry[h] <= w.now
}

func (w *world) take(h api.Handle) {
	w.taken = append(w.taken, h)
	w.drop(h)
}

// drop takes an item away as everybody must.
func (w *world) drop(h api.Handle) {
	w.Helper()
	w.crawl.Left(h)
	w.is("queue.Drop", w.queue.Drop(h), api.OK)
	w.wheel.Take(h)
	w.is("class.Give", w.set.Give(h), api.OK)
}

// shift moves an item to a list's head as everybody must.
func (w *world) shift(h api.Handle, kind int) {
	w.Helper()
	w.crawl.Left(h)
	w.is("queue.Shift", w.queue.Shift(h, kind), api.OK)
}

func (w *world) is(what string, got, must api.Errno) {
	w.Helper()
	if got != must {
		w.Errorf("%s: %v, not %v", what, got, must)
	}
}

// laid is an item that stands in no list; its name is its key.
func (w *world) laid(name string, c, expiry int) api.Handle {
	w.Helper()
	h, e := w.set.Take(c)
	if e != api.OK {
		w.Fatalf("class.Take(%d): %v", c, e)
	}
	w.is("item.Lay", item.Lay(w.set, h, api.Item{Key: []byte(name), Expiry: expiry, State: api.None}), api.OK)
	w.name[h], w.expiry[h] = name, expiry
	return h
}

// pushed is an item at a list's head; the wheel does not know it.
func (w *world) pushed(name string, c, kind, expiry int) api.Handle {
	w.Helper()
	h := w.laid(name, c, expiry)
	w.is("queue.Push", w.queue.Push(h, kind), api.OK)
	return h
}

// row pushes items of class 0 that never expire, one a letter: the first one comes to stand at the tail.
func (w *world) row(kind int, names string) (all []api.Handle) {
	w.Helper()
	for _, x := range names {
		all = append(all, w.pushed(string(x), 0, kind, 0))
	}
	return all
}

// names are those of a row of handles.
func (w *world) names(row []api.Handle) (all string) {
	for _, h := range row {
		all += w.name[h]
	}
	return all
}

// step: does Step tell that many, dead being asked of these and take being called with those, by their names?
func (w *world) step(now, most, looked, taken int, asked, gone string) {
	w.Helper()
	w.now, w.asked, w.taken = now, nil, nil
	a, b := w.crawl.Step(now, most)
	if a != looked || b != taken || w.names(w.asked) != asked || w.names(w.taken) != gone {
		w.Errorf("Step(%d, %d): %d %d, asked of %q, taken %q; not %d %d, %q, %q", now, most, a, b, w.names(w.asked), w.names(w.taken), looked, taken, asked, gone)
	}
}

// looks is a step that finds nobody dead.
func (w *world) looks(most int, asked string) {
	w.Helper()
	w.step(1, most, len(asked), 0, asked, "")
}

func (w *world) place(class, done int) {
	w.Helper()
	if c, n := w.crawl.Place(); c != class || n != done {
		w.Errorf("Place: %d, %d; not %d, %d", c, n, class, done)
	}
}

// image is all bytes of the arena.
func (w *world) image() []byte {
	w.Helper()
	var all []byte
	for i := range w.set.Arena().Pages() {
		p, e := w.set.Arena().Page(i)
		if e != api.OK {
			w.Fatal("arena.Page:", e)
		}
		all = append(all, p...)
	}
	return all
}

// lists are the items of every list.
func (w *world) lists() (all [][]api.Handle) {
	for c := range w.set.Classes() {
		for kind := api.Hot; kind <= api.Cold; kind++ {
			all = append(all, slices.Collect(w.queue.All(c, kind)))
		}
	}
	return all
}

// stands: does a call change no byte, no list and nothing of the wheel?
func (w *world) stands(what string, call func()) {
	w.Helper()
	must, lists, due := w.image(), w.lists(), w.wheel.Due(math.MaxInt, math.MaxInt)
	call()
	if !bytes.Equal(w.image(), must) {
		w.Errorf("%s has changed bytes of the arena", what)
	}
	if got := w.lists(); !slices.EqualFunc(got, lists, slices.Equal) {
		w.Errorf("%s has changed lists: %d, not %d", what, got, lists)
	}
	if got := w.wheel.Due(math.MaxInt, math.MaxInt); !slices.Equal(got, due) {
		w.Errorf("%s has changed the wheel: %d, not %d", what, got, due)
	}
}
