package table_test

import (
	"bytes"
	"testing"

	"granary/api"
	"granary/item"
	"granary/table"
)

// R2: a key that is handed in is neither changed nor kept, nor is its spare room.
func TestKeyIsLeft(t *testing.T) {
	w := begun(t, plain())
	h := w.put("key")[0]
	room := []byte("keyspare")
	for range 2 {
		w.table.Find(room[:3])
		w.table.Find(room[:5])
		if string(room) != "keyspare" {
			t.Fatalf("Find has changed what it was handed: %q", room)
		}
	}
	copy(room, "xxxxxxxx")
	w.finds("key", h)
	w.finds("xxx", 0)
}

// links0 is the arena's bytes with link 0 of these items blotted out.
func links0(w *world, all []api.Handle) []byte {
	w.Helper()
	p := w.image()
	for _, h := range all {
		place, _, e := w.set.At(h)
		if e != api.OK {
			w.Fatal("class.At:", e)
		}
		clear(p[place : place+4])
	}
	return p
}

// Whose the links are: of all bytes of the arena the table lays links 0 alone, and those of no item that it was not handed.
func TestLinksAlone(t *testing.T) {
	w := begun(t, plain())
	var all []api.Handle
	for i := range 60 {
		all = append(all, w.laid(0, key(i)))
	}
	twin, out := w.laid(1, key(3)), w.laid(1, "out")
	for i, h := range append(all, twin, out) {
		for which := range 3 {
			w.is("item.SetLink", item.SetLink(w.set, h, which, all[i%7]), api.OK)
		}
		w.is("item.SetMarks", item.SetMarks(w.set, h, 15), api.OK)
	}
	must := links0(w, append(all, twin))
	for _, h := range all {
		w.is("Put", w.table.Put(h), api.OK)
		w.table.Step(1)
	}
	w.is("Swap", w.table.Swap(all[3], twin), api.OK)
	w.steps(1000, w.table.Moving())
	w.is("Swap", w.table.Swap(twin, all[3]), api.OK)
	for _, h := range all {
		w.take(h)
		w.table.Step(1)
	}
	if !bytes.Equal(links0(w, append(all, twin)), must) {
		t.Error("other bytes than links 0 were laid")
	}
}

// R4: two tables know nothing of each other: over two sets, and over one with items of their own.
func TestApart(t *testing.T) {
	one, two := begun(t, plain()), begun(t, plain())
	third, e := table.New(one.set)
	if e != api.OK {
		t.Fatal(e)
	}
	three := &world{T: t, set: one.set, table: third}
	first := one.fill(25)
	two.finds(key(0), 0)
	three.finds(key(0), 0)
	two.counts(0, 16, 0)
	three.counts(0, 16, 0)
	three.fill(26)
	three.steps(16, 16)
	two.is("Take of another one's item", two.table.Take(first[0]), api.ErrHandle)
	three.is("Take of another one's item", three.table.Take(first[0]), api.ErrHandle)
	three.is("Swap of another one's item", three.table.Swap(first[0], first[1]), api.ErrHandle)
	one.counts(25, 32, 16)
	one.findsAll(first)
}
