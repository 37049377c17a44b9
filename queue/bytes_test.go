package queue_test

import (
	"bytes"
	"testing"

	"granary/api"
	"granary/item"
	"granary/queue"
)

// The places of what is this layer's within a chunk.
const (
	aheadAt  = 4
	behindAt = 8
	stateAt  = 45
)

// blotted is the arena's bytes with what is this layer's blotted out of these items.
func blotted(w *world, all []api.Handle) []byte {
	w.Helper()
	p := w.image()
	for _, h := range all {
		place, _, e := w.set.At(h)
		if e != api.OK {
			w.Fatal("class.At:", e)
		}
		clear(p[place+aheadAt : place+behindAt+4])
		p[place+stateAt] = 0
	}
	return p
}

// full is an item of which no field is zero, in a chunk of no zeros.
func full(w *world, c int, key string) api.Handle {
	w.Helper()
	h := w.laid(c, key)
	place, _, _ := w.set.At(h)
	w.is("arena.Fill", w.set.Arena().Fill(place+api.Head, w.set.Chunk(c)-api.Head, 0xee), api.OK)
	w.is("item.Lay", item.Lay(w.set, h, api.Item{Key: []byte(key), Value: []byte("v"), Flags: 0x01020304, Expiry: 77, Touched: 88, Token: 99, State: api.None, Marks: 15}), api.OK)
	w.is("item.SetLink", item.SetLink(w.set, h, 0, h), api.OK)
	return h
}

// P6.7: links 1 and 2 and the state of items that are handed in, or are neighbours of those, are all that is laid.
func TestNoOtherByte(t *testing.T) {
	w := begun(t, plain())
	var all []api.Handle
	for i := range 12 {
		all = append(all, full(w, i%classes, string(rune('a'+i))))
	}
	out := full(w, 0, "out") // it is never handed in
	must := blotted(w, all)
	same := func(what string, e api.Errno) {
		t.Helper()
		w.is(what, e, api.OK)
		if !bytes.Equal(blotted(w, all), must) {
			t.Fatalf("%s has changed other bytes", what)
		}
	}
	for i, h := range all {
		if i%2 == 0 {
			same("Push", w.queue.Push(h, 1+i%3))
		} else {
			same("Last", w.queue.Last(h, 1+i%3))
		}
	}
	for i, h := range all {
		same("Shift", w.queue.Shift(h, 1+i/4))
		w.lists()
	}
	for i := range all {
		same("Drop", w.queue.Drop(all[i*5%len(all)]))
	}
	for _, h := range append(all, out) {
		w.nowhere(h)
	}
}

// P6.7: the bytes themselves. The chunks of 64 bytes at places 0, 64 and 128 have the numbers 1, 9 and 17.
func TestBytesOfARow(t *testing.T) {
	w := begun(t, plain())
	w.row(0, api.Cold, 3)
	p := w.image()
	for i, must := range [][2]byte{{0, 9}, {1, 17}, {9, 0}} {
		chunk := p[64*i : 64*i+64]
		if !bytes.Equal(chunk[aheadAt:behindAt+4], []byte{0, 0, 0, must[0], 0, 0, 0, must[1]}) || chunk[stateAt] != api.Cold {
			t.Errorf("item %d: links % x, state %d", i, chunk[aheadAt:behindAt+4], chunk[stateAt])
		}
	}
}

// P6.7: what others do to an item's other fields is not this layer's: the list is as it was.
func TestOtherFields(t *testing.T) {
	w := begun(t, plain())
	row := w.row(1, api.Hot, 3)
	for _, h := range row {
		w.is("item.SetLink", item.SetLink(w.set, h, 0, row[0]), api.OK)
		w.is("item.SetMarks", item.SetMarks(w.set, h, 9), api.OK)
		w.is("item.SetToken", item.SetToken(w.set, h, 1<<63), api.OK)
		w.is("item.SetExpiry", item.SetExpiry(w.set, h, 5), api.OK)
		w.is("item.Value", item.Value(w.set, h, make([]byte, 60)), api.OK)
	}
	w.holds(1, api.Hot, row...)
}

// R4: two that were made apart know nothing of each other.
func TestApart(t *testing.T) {
	one, two := begun(t, plain()), begun(t, plain())
	row := one.row(0, api.Hot, 3)
	two.holds(0, api.Hot)
	two.is("Drop of another one's item", two.queue.Drop(row[0]), api.ErrHandle)
	other := two.row(0, api.Hot, 2)
	two.is("Drop", two.queue.Drop(other[0]), api.OK)
	one.holds(0, api.Hot, row...)
	two.holds(0, api.Hot, other[1])
	if _, e := queue.New(two.set); e != api.OK {
		t.Error("New over the same set:", e)
	}
	two.holds(0, api.Hot, other[1])
}
