package queue_test

import (
	"iter"
	"slices"
	"testing"

	"granary/api"
	"granary/item"
)

// P6.6: what is told are the items that stand in the list when a range begins, whatever its body does.
func TestBodies(t *testing.T) {
	bodies := map[string]func(w *world, h api.Handle, row []api.Handle){
		"nothing":              func(w *world, h api.Handle, row []api.Handle) {},
		"drops itself":         func(w *world, h api.Handle, row []api.Handle) { w.queue.Drop(h) },
		"drops the head":       func(w *world, h api.Handle, row []api.Handle) { w.queue.Drop(row[0]) },
		"drops the tail":       func(w *world, h api.Handle, row []api.Handle) { w.queue.Drop(row[len(row)-1]) },
		"shifts itself":        func(w *world, h api.Handle, row []api.Handle) { w.queue.Shift(h, api.Hot) },
		"shifts itself away":   func(w *world, h api.Handle, row []api.Handle) { w.queue.Shift(h, api.Cold) },
		"shifts the tail":      func(w *world, h api.Handle, row []api.Handle) { w.queue.Shift(row[len(row)-1], api.Hot) },
		"pushes another":       func(w *world, h api.Handle, row []api.Handle) { w.queue.Push(w.laid(0, "n"), api.Hot) },
		"lays another last":    func(w *world, h api.Handle, row []api.Handle) { w.queue.Last(w.laid(0, "n"), api.Hot) },
		"drops and lays last":  func(w *world, h api.Handle, row []api.Handle) { w.queue.Drop(h); w.queue.Last(h, api.Hot) },
		"drops and pushes":     func(w *world, h api.Handle, row []api.Handle) { w.queue.Drop(h); w.queue.Push(h, api.Hot) },
		"ranges over the list": func(w *world, h api.Handle, row []api.Handle) { w.all(0, api.Hot) },
		"drops and gives":      func(w *world, h api.Handle, row []api.Handle) { w.queue.Drop(h); w.set.Give(h) },
		"drops all": func(w *world, h api.Handle, row []api.Handle) {
			for _, h := range row {
				w.queue.Drop(h)
			}
		},
		"drops all, gives them, and fills the chunks anew": func(w *world, h api.Handle, row []api.Handle) {
			for _, h := range row {
				if w.queue.Drop(h) == api.OK {
					w.set.Give(h)
				}
			}
			w.row(0, api.Hot, 3)
		},
	}
	for name, body := range bodies {
		t.Run(name, func(t *testing.T) {
			for n := range 6 {
				w := begun(t, plain())
				row := w.row(0, api.Hot, n)
				w.row(0, api.Cold, 2)
				all := w.queue.All(0, api.Hot)
				for range 3 { // the later ranges are over what the earlier ones have left
					must := slices.Clone(row)
					var got []api.Handle
					for h := range all {
						got = append(got, h)
						body(w, h, row)
						if len(got) > len(row) {
							break
						}
					}
					if !slices.Equal(got, must) {
						t.Fatalf("of %d items: %d, not %d", n, got, must)
					}
					row = w.all(0, api.Hot)
					w.holds(0, api.Hot, row...)
				}
			}
		})
	}
}

// P6.6: it is the beginning of a range that says what is told, not the call of All; a second range begins anew.
func TestRangesBeginAnew(t *testing.T) {
	w := begun(t, plain())
	all := w.queue.All(0, api.Cold)
	row := w.row(0, api.Cold, 4)
	for range 3 {
		if got := slices.Collect(all); !slices.Equal(got, row) {
			t.Errorf("%d, not %d", got, row)
		}
	}
	w.is("Drop", w.queue.Drop(row[2]), api.OK)
	if got := slices.Collect(all); !slices.Equal(got, without(row, 2)) {
		t.Errorf("behind a Drop: %d of %d", got, row)
	}
}

// P6.6: a range is left where its body says so, and the next one begins at the head.
func TestRangesAreLeft(t *testing.T) {
	w := begun(t, plain())
	row := w.row(0, api.Warm, 5)
	all := w.queue.All(0, api.Warm)
	for stop := 1; stop <= 5; stop++ {
		var got []api.Handle
		for h := range all {
			got = append(got, h)
			if len(got) == stop {
				break
			}
		}
		if !slices.Equal(got, row[:stop]) {
			t.Errorf("left behind %d: %d, not %d", stop, got, row[:stop])
		}
	}
	calls := 0
	all(func(api.Handle) bool { calls++; return false })
	if calls != 1 {
		t.Errorf("the body was called %d times, though it ended the range at once", calls)
	}
	w.holds(0, api.Warm, row...)
}

// P6.6: ranges within ranges, over the same iterator, and pulled ones that go on side by side.
func TestRangesWithinRanges(t *testing.T) {
	w := begun(t, plain())
	row := w.row(0, api.Hot, 3)
	all := w.queue.All(0, api.Hot)
	var got, must []api.Handle
	for h := range all {
		for k := range all {
			got = append(got, h, k)
		}
	}
	for _, h := range row {
		for _, k := range row {
			must = append(must, h, k)
		}
	}
	if !slices.Equal(got, must) {
		t.Errorf("%d, not %d", got, must)
	}
	one, end := iter.Pull(all)
	defer end()
	two, stop := iter.Pull(all)
	defer stop()
	first, _ := one()
	w.is("Drop", w.queue.Drop(row[1]), api.OK)
	other, _ := two()
	second, _ := one()
	another, _ := two()
	if first != row[0] || second != row[1] || other != row[0] || another != row[2] {
		t.Errorf("side by side: %d %d and %d %d of %d", first, second, other, another, row)
	}
}

// P6.6, P6.7: a range changes nothing.
func TestRangesChangeNothing(t *testing.T) {
	w := begun(t, plain())
	for c := range classes {
		row := w.row(c, api.Hot, 4)
		w.is("item.SetMarks", item.SetMarks(w.set, row[1], 15), api.OK)
	}
	w.stands("a range", func() {
		for c := range classes {
			for range w.queue.All(c, api.Hot) {
			}
			for range w.queue.All(c, api.Hot) {
				break
			}
		}
	})
}
