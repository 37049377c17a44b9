package table_test

import (
	"bytes"
	"strconv"
	"testing"

	"granary/api"
	"granary/class"
	"granary/hash"
	"granary/item"
	"granary/table"
)

// plain is the Config of the chapter's runs.
func plain() api.Config {
	return api.Config{PageSize: 4096, Pages: 3, Factor: 200, MinChunk: 64, ItemLimit: 256}
}

// roomy has chunks for more moves.
func roomy() api.Config {
	c := plain()
	c.Pages = 10
	return c
}

// world is a table over a set of its own.
type world struct {
	*testing.T
	set   *class.Set
	table *table.Table
	made  int // how many keys have been made up
}

func begun(t *testing.T, c api.Config) *world {
	t.Helper()
	s, e := class.New(c)
	if e != api.OK {
		t.Fatal("class.New:", e)
	}
	x, e := table.New(s)
	if e != api.OK || x == nil {
		t.Fatal("New:", e)
	}
	return &world{t, s, x, 0}
}

func (w *world) taken(c int) api.Handle {
	w.Helper()
	h, e := w.set.Take(c)
	if e != api.OK {
		w.Fatalf("class.Take(%d): %v", c, e)
	}
	return h
}

func (w *world) lay(h api.Handle, key string) {
	w.Helper()
	w.is("item.Lay", item.Lay(w.set, h, api.Item{Key: []byte(key), State: api.None}), api.OK)
}

// laid is an item that is not in the table.
func (w *world) laid(c int, key string) api.Handle {
	w.Helper()
	h := w.taken(c)
	w.lay(h, key)
	return h
}

// put puts items of these keys.
func (w *world) put(keys ...string) (all []api.Handle) {
	w.Helper()
	for _, key := range keys {
		h := w.laid(0, key)
		w.is("Put", w.table.Put(h), api.OK)
		all = append(all, h)
	}
	return all
}

// fill puts n items of keys of which none was there.
func (w *world) fill(n int) (all []api.Handle) {
	w.Helper()
	for range n {
		all = append(all, w.put(key(w.made))...)
		w.made++
	}
	return all
}

// key is the i-th that is made up.
func key(i int) string { return "k" + strconv.Itoa(i) }

// take takes items out.
func (w *world) take(all ...api.Handle) {
	w.Helper()
	for _, h := range all {
		w.is("Take", w.table.Take(h), api.OK)
	}
}

func (w *world) is(what string, got, must api.Errno) {
	w.Helper()
	if got != must {
		w.Errorf("%s: %v, not %v", what, got, must)
	}
}

// counts: are these Len, Buckets and Moving?
func (w *world) counts(items, buckets, moving int) {
	w.Helper()
	if x := w.table; x.Len() != items || x.Buckets() != buckets || x.Moving() != moving {
		w.Errorf("Len %d, Buckets %d, Moving %d; not %d, %d, %d", x.Len(), x.Buckets(), x.Moving(), items, buckets, moving)
	}
}

func (w *world) steps(n, must int) {
	w.Helper()
	if gone := w.table.Step(n); gone != must {
		w.Errorf("Step(%d): %d, not %d", n, gone, must)
	}
}

// finds: does Find tell this handle of the key? With 0: none.
func (w *world) finds(key string, must api.Handle) {
	w.Helper()
	if h, ok := w.table.Find([]byte(key)); h != must || ok != (must != 0) {
		w.Errorf("Find(%q): %d, %v; not %d", key, h, ok, must)
	}
}

// findsAll: are just these the items of the first keys that were made up?
func (w *world) findsAll(all []api.Handle) {
	w.Helper()
	for i, h := range all {
		w.finds(key(i), h)
	}
}

// none: is link 0 of this item to none?
func (w *world) none(h api.Handle) {
	w.Helper()
	if to, e := item.Link(w.set, h, 0); to != 0 || e != api.OK {
		w.Errorf("link 0 of %d is to %d, %v", h, to, e)
	}
}

// image is all bytes of the arena.
func (w *world) image() []byte {
	w.Helper()
	var all []byte
	for i := range w.set.Arena().Pages() {
		p, e := w.set.Arena().Page(i)
		if e != api.OK {
			w.Fatal("arena.Page:", e)
		}
		all = append(all, p...)
	}
	return all
}

// stands: does a call change no byte and no number?
func (w *world) stands(what string, call func()) {
	w.Helper()
	must, items, buckets, moving := w.image(), w.table.Len(), w.table.Buckets(), w.table.Moving()
	call()
	if !bytes.Equal(w.image(), must) {
		w.Errorf("%s has changed bytes of the arena", what)
	}
	w.counts(items, buckets, moving)
}

// alike are n keys of one bucket among so many.
func alike(n, buckets int) (all []string) {
	bucket := hash.Sum([]byte("a")) % uint64(buckets)
	for i := 0; len(all) < n; i++ {
		if k := "a" + strconv.Itoa(i); hash.Sum([]byte(k))%uint64(buckets) == bucket {
			all = append(all, k)
		}
	}
	return all
}
