package table_test

import (
	"math"
	"testing"

	"granary/api"
	"granary/class"
	"granary/table"
)

// notGood are handles that are not good beside a good one: no chunk's number, the middle of a chunk, a free chunk, a free page, generations that were and that were not yet.
func notGood(w *world, h api.Handle) []api.Handle {
	given := w.laid(0, "given")
	w.is("class.Give", w.set.Give(given), api.OK)
	again := w.laid(0, "given")
	w.is("class.Give", w.set.Give(again), api.OK)
	return []api.Handle{0, 2, h + 4, given, again, given + 2<<32, given + 8, 1025, h + 1<<32, h | 1<<63, 1 << 32, math.MaxUint64}
}

// moments are tables in all states of a move: none, decided, gone on, through; growing and shrinking. Each has "k0" to "k2" in it.
func moments(t *testing.T) map[string]*world {
	all := map[string]*world{}
	for _, name := range []string{"still", "growing", "grown in part", "grown", "shrinking", "shrunk in part", "shrunk"} {
		w := begun(t, plain())
		all[name] = w
		if name == "still" {
			w.fill(3)
			continue
		}
		hs := w.fill(25)
		switch name {
		case "growing":
			continue
		case "grown in part":
			w.steps(7, 7)
			continue
		}
		w.steps(16, 16)
		if name == "grown" {
			continue
		}
		w.take(hs[3:]...)
		w.counts(3, 16, 32)
		switch name {
		case "shrunk in part":
			w.steps(13, 13)
		case "shrunk":
			w.steps(32, 32)
		}
	}
	return all
}

// P5.3, R3: what is refused, with which error, whatever else is wrong; nothing has changed behind it.
func TestRefusals(t *testing.T) {
	for name, w := range moments(t) {
		t.Run(name, func(t *testing.T) {
			w.T = t
			h, _ := w.table.Find([]byte("k0"))
			second, _ := w.table.Find([]byte("k1"))
			twin, out, bare := w.laid(1, "k0"), w.laid(0, "out"), w.taken(0)
			bad := append(notGood(w, h), bare)
			w.stands("what was refused", func() {
				for _, b := range bad {
					w.is("Put of no item", w.table.Put(b), api.ErrHandle)
					w.is("Take of no item", w.table.Take(b), api.ErrHandle)
					w.is("Swap of no item", w.table.Swap(b, out), api.ErrHandle)
					w.is("Swap of no item with its twin", w.table.Swap(b, twin), api.ErrHandle)
					w.is("Swap with no item", w.table.Swap(h, b), api.ErrHandle)
					w.is("Swap of no item with itself", w.table.Swap(b, b), api.ErrHandle)
				}
				w.is("Put of what is in", w.table.Put(h), api.ErrTwice)
				w.is("Put of a key that is in", w.table.Put(twin), api.ErrTwice)
				w.is("Take of what is not in", w.table.Take(out), api.ErrHandle)
				w.is("Take of the twin of what is in", w.table.Take(twin), api.ErrHandle)
				w.is("Swap of what is not in", w.table.Swap(out, twin), api.ErrHandle)
				w.is("Swap of what is not in with what is in", w.table.Swap(out, h), api.ErrHandle)
				w.is("Swap of the twin with what is in", w.table.Swap(twin, h), api.ErrHandle)
				w.is("Swap of the twin with itself", w.table.Swap(twin, twin), api.ErrHandle)
				w.is("Swap of what is in with itself", w.table.Swap(h, h), api.ErrHandle)
				w.is("Swap of two that are in", w.table.Swap(h, second), api.ErrHandle)
				w.is("Swap of unlike keys", w.table.Swap(h, out), api.ErrArg)
			})
			w.finds("k0", h)
			w.finds("k1", second)
			w.finds("out", 0)
			w.finds("given", 0)
		})
	}
}

// P5.2: keys that no item has are not found, and no Find changes anything.
func TestFindOfNone(t *testing.T) {
	for name, w := range moments(t) {
		t.Run(name, func(t *testing.T) {
			w.T = t
			w.stands("Find", func() {
				for _, k := range []string{"", "k", "K0", "k0 ", " k0", "k0\x00", "k00", "k0k1", "\x00", "k99", string(make([]byte, 250)), string(make([]byte, 251)), string(make([]byte, 1<<20))} {
					w.finds(k, 0)
				}
				for range 3 {
					if h, ok := w.table.Find([]byte("k2")); h == 0 || !ok {
						t.Error("Find of a key that is in:", h, ok)
					}
				}
			})
			if h, ok := w.table.Find(nil); h != 0 || ok {
				t.Error("Find(nil):", h, ok)
			}
		})
	}
}

// P5.2: keys of every length and of bytes that look alike.
func TestFindLengths(t *testing.T) {
	w := begun(t, api.Config{PageSize: 4096, Pages: 40, Factor: 400, MinChunk: 312, ItemLimit: 312})
	long := make([]byte, 250)
	for i := range long {
		long[i] = 'x'
	}
	all := make([]api.Handle, 251)
	for n := 1; n <= 250; n++ {
		all[n] = w.put(string(long[:n]))[0]
		w.table.Step(2)
	}
	for n, h := range all {
		w.finds(string(long[:n]), h)
	}
	w.finds(string(long)+"x", 0)
	for _, b := range []byte{33, 126, 128, 255} {
		k := string([]byte{b})
		w.finds(k, 0)
		w.finds(k, w.put(k)[0])
	}
}

// R1: a set that New did not give has no chunks, and so the table no items.
func TestEmptySet(t *testing.T) {
	x, e := table.New(&class.Set{})
	if e != api.OK || x == nil {
		t.Fatal("New:", e)
	}
	w := &world{T: t, table: x}
	for _, h := range []api.Handle{0, 1, math.MaxUint64} {
		w.is("Put", x.Put(h), api.ErrHandle)
		w.is("Take", x.Take(h), api.ErrHandle)
		w.is("Swap", x.Swap(h, h+1), api.ErrHandle)
	}
	w.finds("a", 0)
	w.steps(9, 0)
	w.counts(0, 16, 0)
}

// P5.5: nothing moves for a number below 1, nor where nothing is to move.
func TestStepOfNothing(t *testing.T) {
	for name, w := range moments(t) {
		t.Run(name, func(t *testing.T) {
			w.T = t
			w.stands("Step of nothing", func() {
				for _, n := range []int{math.MinInt, -1, 0} {
					w.steps(n, 0)
				}
			})
			w.steps(math.MaxInt, w.table.Moving())
			w.stands("Step behind a move", func() {
				for _, n := range []int{math.MinInt, -1, 0, 1, 16, math.MaxInt} {
					w.steps(n, 0)
				}
			})
		})
	}
}
