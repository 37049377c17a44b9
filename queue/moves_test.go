package queue_test

import (
	"slices"
	"testing"

	"granary/api"
)

// without is a row with its i-th one left out.
func without(row []api.Handle, i int) []api.Handle {
	return slices.Delete(slices.Clone(row), i, i+1)
}

// P6.3: from each place of rows of one to four an item is dropped, and the others stand as they did.
func TestDropFromEachPlace(t *testing.T) {
	for n := 1; n <= 4; n++ {
		for i := range n {
			w := begun(t, plain())
			row, other := w.row(1, api.Warm, n), w.row(1, api.Cold, 2)
			w.is("Drop", w.queue.Drop(row[i]), api.OK)
			w.holds(1, api.Warm, without(row, i)...)
			w.holds(1, api.Cold, other...)
			w.nowhere(row[i])
			w.is("Drop once more", w.queue.Drop(row[i]), api.ErrHandle)
			w.is("Shift of what was dropped", w.queue.Shift(row[i], 1), api.ErrHandle)
			w.is("Push of what was dropped", w.queue.Push(row[i], 3), api.OK)
			w.holds(1, api.Cold, append([]api.Handle{row[i]}, other...)...)
		}
	}
}

// P6.4: from each place of rows of one to four an item is shifted, to each kind, that of its own too.
func TestShiftFromEachPlace(t *testing.T) {
	for n := 1; n <= 4; n++ {
		for i := range n {
			for kind := api.Hot; kind <= api.Cold; kind++ {
				for others := range 3 {
					w := begun(t, plain())
					rows := map[int][]api.Handle{2: w.row(1, 2, n), 1: w.row(1, 1, others), 3: w.row(1, 3, others)}
					h := rows[2][i]
					w.is("Shift", w.queue.Shift(h, kind), api.OK)
					rows[2] = without(rows[2], i)
					rows[kind] = append([]api.Handle{h}, rows[kind]...)
					for k, row := range rows {
						w.holds(1, k, row...)
					}
				}
			}
		}
	}
}

// P6.4: what is shifted to another kind stays in its own class.
func TestShiftWithinTheClass(t *testing.T) {
	w := begun(t, plain())
	for c := range classes {
		h := w.row(c, api.Hot, 1)[0]
		w.is("Shift", w.queue.Shift(h, api.Cold), api.OK)
		w.holds(c, api.Hot)
		w.holds(c, api.Cold, h)
	}
}

// A chunk that was dropped, given and taken again is a new item: nothing of where it stood is left.
func TestTakenAgain(t *testing.T) {
	w := begun(t, plain())
	row := w.row(0, api.Hot, 3)
	w.is("Drop", w.queue.Drop(row[1]), api.OK)
	w.is("class.Give", w.set.Give(row[1]), api.OK)
	again := w.laid(0, "again")
	if uint32(again) != uint32(row[1]) {
		t.Fatal("another chunk was taken")
	}
	w.nowhere(again)
	w.is("Drop by the old handle", w.queue.Drop(row[1]), api.ErrHandle)
	w.is("Push by the old handle", w.queue.Push(row[1], 1), api.ErrHandle)
	w.is("Last", w.queue.Last(again, 1), api.OK)
	w.is("Shift by the old handle", w.queue.Shift(row[1], 1), api.ErrHandle)
	w.ahead(row[1], 0)
	w.holds(0, api.Hot, row[0], row[2], again)
}
