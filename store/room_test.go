package store_test

import (
	"testing"

	"granary/api"
)

// filled is a store in which class 0 is full and no page is free; nobody has moved: its items stand in hot, k000 at the tail.
func filled(t *testing.T) *world {
	t.Helper()
	w := paced(t, full(), api.Pace{})
	w.sets(long(60), "m")
	w.sets(long(160), "l")
	w.sets("v", names(64)...)
	w.resident(64, 1, 1)
	return w
}

// goes: does a Set of a new small item take just this key's item away?
func (w *world) goes(key string, m api.Meter) {
	w.Helper()
	had := map[string]bool{}
	for _, x := range names(64) {
		_, had[x] = w.Find(x)
	}
	if !had[key] && m.Dropped > 0 {
		w.Fatalf("%s was not there", key)
	}
	w.stores(set("n"+key, "v"))
	w.meter(m)
	for _, x := range names(64) {
		if _, ok := w.Find(x); ok != (had[x] && x != key) {
			w.Errorf("%s is there: %v", x, ok)
		}
	}
	w.resident(64, 1, 1)
}

// P10.8: whom Pick names, of live ones: the first that is not active.
func TestDrop(t *testing.T) {
	w := filled(t)
	w.goes("k000", api.Meter{Dropped: 1, Looked: 5})
	w.tells(get("k001", "k002"), "k001", "k002")
	w.goes("k003", api.Meter{Dropped: 1, Looked: 5})
	w.tells(get("k004", "k005", "k006"), "k004", "k005", "k006")
	w.goes("k001", api.Meter{Dropped: 1, Looked: 5})
	w.holds("m", long(60))
	w.holds("l", long(160))
}

// P10.8: a dead one among those that are looked at goes first; one behind them does not.
func TestReclaim(t *testing.T) {
	for i, m := range []api.Meter{{Reclaimed: 1, Looked: 1}, {Reclaimed: 1, Looked: 2}, {Reclaimed: 1, Looked: 3}, {Reclaimed: 1, Looked: 4}, {Reclaimed: 1, Looked: 5}} {
		w := filled(t)
		key := names(64)[i]
		w.is(till(verb(api.Touch, key), -1), api.Touched)
		w.goes(key, m)
		w.goes("k00"+string(rune('0'+max(0, 1-i))), api.Meter{Dropped: 1, Looked: 5})
	}
	w := filled(t)
	w.is(till(verb(api.Touch, "k005"), -1), api.Touched)
	w.goes("k000", api.Meter{Dropped: 1, Looked: 5})
	w.goes("k005", api.Meter{Reclaimed: 1, Looked: 5})

	w = filled(t)
	w.is(flush(0), api.Fine)
	w.stores(set("more", "v"))
	w.meter(api.Meter{Reclaimed: 1, Looked: 1})
	w.resident(64, 1, 1)
	w.tells(get("k000", "k001"))
	w.why(1, 3)
}

// P10.8: the command's own item is passed over, and not counted.
func TestOwnIsPassedOver(t *testing.T) {
	for _, c := range []api.Command{set("k000", "w"), with(api.Replace, "k000", "w"), with(api.Append, "k000", "w"), with(api.Prepend, "k000", "w"), cas("k000", "w", 3)} {
		w := filled(t)
		w.stores(c)
		w.meter(api.Meter{Dropped: 1, Looked: 5})
		w.lacks("k001")
		w.tells(get("k000", "k002", "k006"), "k000", "k002", "k006")
		// The old one's chunk is free again.
		w.resident(63, 1, 1)
		w.stores(set("more", "v"))
		w.meter(api.Meter{})
	}
	// A dead one is taken away when it is met: its chunk is there.
	w := filled(t)
	w.is(till(verb(api.Touch, "k000"), -1), api.Touched)
	w.stores(set("k000", "w"))
	w.meter(api.Meter{})
	w.resident(64, 1, 1)
}

// P10.8, W3: where the class has no other item than the command's own, nobody goes.
func TestOwnAlone(t *testing.T) {
	c := single()
	c.Pages = 5
	w := paced(t, c, slow())
	w.sets("x", "zero")
	w.sets(long(100), "one")
	w.sets(long(500), "two")
	w.sets(long(3000), "k", "j")
	w.stores(set("k", long(3001)))
	if m := w.Meter(); m.Dropped != 1 || m.Looked != 1 {
		t.Errorf("Meter: %+v", m)
	}
	w.lacks("j")
	w.resident(1, 1, 1, 1)
	w.stores(with(api.Append, "k", "x"))
	if m := w.Meter(); m.Dropped+m.Looked != 0 {
		t.Errorf("Meter: %+v", m)
	}
	w.sets(long(3000), "j")
	w.stores(with(api.Append, "k", "x"))
	w.lacks("j")
	w.holds("k", long(3003))
}

// P10.8: an item that needs no new chunk drops nobody, nor does a command that is refused ahead of it.
func TestNobodyGoes(t *testing.T) {
	w := filled(t)
	w.refuses(with(api.Append, "k003", long(197)), large)
	w.is(with(api.Add, "k003", "v"), api.NotStored)
	w.is(with(api.Replace, "none", "v"), api.NotStored)
	w.is(cas("k003", "v", 99), api.Exists)
	w.is(by(api.Incr, "none", 1), api.NotFound)
	w.refuses(by(api.Incr, "k003", 1), noNumber)
	w.tells(get("none", "k003"), "k003")
	w.resident(64, 1, 1)
	w.stores(with(api.Append, "k003", long(10)))
	w.meter(api.Meter{})
	w.resident(63, 2, 1)
	w.refuses(set("k004", long(300)), large)
	w.resident(62, 2, 1)
}
