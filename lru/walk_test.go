package lru_test

import (
	"iter"
	"slices"
	"testing"

	"granary/api"
	"granary/lru"
)

// P8.6: what is told is the row as it stands when the range begins, whatever the body does.
func TestBodies(t *testing.T) {
	bodies := map[string]func(w *world, h api.Handle, row []api.Handle){
		"nothing":           func(w *world, h api.Handle, row []api.Handle) {},
		"lets it leave":     func(w *world, h api.Handle, row []api.Handle) { w.lru.Leave(h) },
		"leaves and gives":  func(w *world, h api.Handle, row []api.Handle) { w.lru.Leave(h); w.set.Give(h) },
		"leaves and enters": func(w *world, h api.Handle, row []api.Handle) { w.lru.Leave(h); w.lru.Enter(h) },
		"lets one enter":    func(w *world, h api.Handle, row []api.Handle) { w.entered(0, 1) },
		"lays one into cold": func(w *world, h api.Handle, row []api.Handle) {
			w.row(0, api.Cold, 1)
		},
		"the last leaves":   func(w *world, h api.Handle, row []api.Handle) { w.lru.Leave(row[len(row)-1]) },
		"the first leaves":  func(w *world, h api.Handle, row []api.Handle) { w.lru.Leave(row[0]) },
		"hits and balances": func(w *world, h api.Handle, row []api.Handle) { w.lru.Hit(h); w.lru.Balance(0, 3, nil) },
		"balances":          func(w *world, h api.Handle, row []api.Handle) { w.lru.Balance(0, 9, nil) },
		"ranges":            func(w *world, h api.Handle, row []api.Handle) { w.walk(0) },
		"all leave, and others enter": func(w *world, h api.Handle, row []api.Handle) {
			for _, h := range row {
				if w.lru.Leave(h) == api.OK {
					w.set.Give(h)
				}
			}
			w.entered(0, 2)
		},
	}
	for name, body := range bodies {
		t.Run(name, func(t *testing.T) {
			w, row := standing(t)
			all := w.lru.Walk(0)
			for range 3 { // the later ranges are over what the earlier ones have left
				var got []api.Handle
				for h := range all {
					got = append(got, h)
					body(w, h, row)
					if len(got) > len(row) {
						break
					}
				}
				if !slices.Equal(got, row) {
					t.Fatalf("%d, not %d", got, row)
				}
				row = slices.Concat(backward(w.kind(api.Cold)), backward(w.kind(api.Warm)), backward(w.kind(api.Hot)))
			}
		})
	}
}

// kind is a queue of class 0, from its head on.
func (w *world) kind(kind int) []api.Handle { return slices.Collect(w.queue.All(0, kind)) }

// P8.6: the beginning of a range says what is told, not the call of Walk; each range begins anew.
func TestRangesBeginAnew(t *testing.T) {
	w := begun(t, 30, 30)
	all := w.lru.Walk(0)
	row := w.entered(0, 4)
	for range 3 {
		if got := slices.Collect(all); !slices.Equal(got, row) {
			t.Errorf("%d, not %d", got, row)
		}
	}
	w.is("Leave", w.lru.Leave(row[2]), api.OK)
	if got := slices.Collect(all); !slices.Equal(got, slices.Delete(slices.Clone(row), 2, 3)) {
		t.Errorf("behind a Leave: %d of %d", got, row)
	}
}

// P8.6: a range is left where its body says so, and the next one begins at the row's beginning.
func TestRangesAreLeft(t *testing.T) {
	w, row := standing(t)
	all := w.lru.Walk(0)
	for stop := 1; stop <= len(row); stop++ {
		calls := 0
		all(func(h api.Handle) bool {
			if h != row[calls] {
				t.Errorf("call %d: %d, not %d", calls, h, row[calls])
			}
			calls++
			return calls < stop
		})
		if calls != stop {
			t.Errorf("%d calls, not %d", calls, stop)
		}
	}
}

// P8.6: ranges within ranges, and pulled ones that go on side by side.
func TestRangesSideBySide(t *testing.T) {
	w, row := standing(t)
	all := w.lru.Walk(0)
	for h := range all {
		if got := slices.Collect(all); !slices.Equal(got, row) {
			t.Errorf("within the range at %d: %d, not %d", h, got, row)
		}
	}
	one, end := iter.Pull(all)
	defer end()
	two, stop := iter.Pull(all)
	defer stop()
	first, _ := one()
	w.is("Leave", w.lru.Leave(row[1]), api.OK)
	other, _ := two()
	second, _ := one()
	another, _ := two()
	if first != row[0] || second != row[1] || other != row[0] || another != row[2] {
		t.Errorf("side by side: %d %d and %d %d of %d", first, second, other, another, row)
	}
}

// P8.6: each class has its own row, and an empty one tells nothing.
func TestWalkOfClasses(t *testing.T) {
	w := begun(t, 30, 30)
	w.walks(0)
	row := w.entered(2, 3)
	w.walks(0)
	w.walks(2, row...)
}

// P8.5, P8.6, P8.7: what only tells changes nothing.
func TestTellingChangesNothing(t *testing.T) {
	w, row := standing(t)
	w.hit(row[1], row[5])
	w.stands("Walk and Len", func() {
		w.walks(0, row...)
		w.lengths(0, 2, 3, 2)
		w.lengths(1, 0, 0, 2)
		w.lengths(2, 0, 0, 0)
	})
}

// R4: two that were made apart know nothing of each other.
func TestApart(t *testing.T) {
	one, two := begun(t, 34, 34), begun(t, 10, 10)
	row := one.entered(0, 3)
	two.walks(0)
	two.is("Hit of another one's item", two.lru.Hit(row[0]), api.ErrHandle)
	other := two.entered(0, 2)
	two.hit(other[0])
	two.balance(0, 1, 1)
	one.lengths(0, 3, 0, 0)
	one.active(row)
	one.balance(0, 9, 2)
	two.lengths(0, 1, 1, 0)
}

// P8.1, P8.2: an Lru keeps nothing of its own: a second one over the same queues sees all that the first one does.
func TestNothingIsKept(t *testing.T) {
	w := begun(t, 34, 34)
	second, e := lru.New(w.set, w.queue, 34, 34)
	if e != api.OK {
		t.Fatal("New:", e)
	}
	row := w.entered(0, 6)
	w.hit(row[0])
	w.is("Hit", second.Hit(row[1]), api.OK)
	w.balance(0, 2, 2)
	w.holds(api.Warm, row[1], row[0])
	if n := second.Balance(0, 9, nil); n != 2 {
		t.Error("the second one's Balance:", n)
	}
	w.balance(0, 9, 0)
	if got := slices.Collect(second.Walk(0)); !slices.Equal(got, w.walk(0)) {
		t.Error("the second one's Walk:", got)
	}
}
