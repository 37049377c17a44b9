package tide_test

import (
	"math"
	"slices"
	"testing"

	"granary/api"
	"granary/tide"
)

// P7.6: an expiry of 0 or below takes the entry away, also where there is none.
func TestSetNone(t *testing.T) {
	for _, expiry := range []int{0, -1, math.MinInt} {
		w := tide.NewWheel()
		w.Set(4, expiry)
		holds(t, w)
		w.Set(4, 1)
		w.Set(5, math.MaxInt)
		holds(t, w, row{4, 1}, row{5, math.MaxInt})
		w.Set(4, expiry)
		holds(t, w, row{5, math.MaxInt})
		takes(t, w, 4, false)
	}
}

// P7.6: what is set again is set last, with the expiry that it had and with another one.
func TestSetAgain(t *testing.T) {
	w := tide.NewWheel()
	for h := range api.Handle(4) {
		w.Set(h, 5)
	}
	holds(t, w, row{0, 5}, row{1, 5}, row{2, 5}, row{3, 5})
	w.Set(1, 5)
	holds(t, w, row{0, 5}, row{2, 5}, row{3, 5}, row{1, 5})
	w.Set(0, 9)
	w.Set(0, 5)
	holds(t, w, row{2, 5}, row{3, 5}, row{1, 5}, row{0, 5})
	takes(t, w, 2, true)
	w.Set(2, 5)
	holds(t, w, row{3, 5}, row{1, 5}, row{0, 5}, row{2, 5})
	w.Set(1, 4)
	w.Set(3, 6)
	holds(t, w, row{1, 4}, row{0, 5}, row{2, 5}, row{3, 6})
}

// P7.7: Due tells what is not above now, the first most of it, and leaves it in the wheel.
func TestDue(t *testing.T) {
	w := tide.NewWheel()
	due(t, w, math.MaxInt, math.MaxInt)
	for _, r := range []row{{1, 7}, {2, 3}, {3, 7}, {4, 1}, {5, math.MaxInt}, {6, 3}} {
		w.Set(r.handle, r.expiry)
	}
	for _, now := range []int{math.MinInt, -1, 0} {
		due(t, w, now, 9)
	}
	due(t, w, 1, 9, 4)
	due(t, w, 2, 9, 4)
	due(t, w, 3, 9, 4, 2, 6)
	due(t, w, 3, 3, 4, 2, 6)
	due(t, w, 3, 2, 4, 2)
	due(t, w, 3, 1, 4)
	due(t, w, 3, 0)
	due(t, w, 3, math.MinInt)
	due(t, w, 7, 4, 4, 2, 6, 1)
	due(t, w, math.MaxInt-1, math.MaxInt, 4, 2, 6, 1, 3)
	holds(t, w, row{4, 1}, row{2, 3}, row{6, 3}, row{1, 7}, row{3, 7}, row{5, math.MaxInt})
}

// R2: what Due tells is new memory, its spare room too; the wheel does not go by it.
func TestDueIsNew(t *testing.T) {
	w := tide.NewWheel()
	for h := range api.Handle(5) {
		w.Set(h+1, 3)
	}
	one, two := w.Due(3, 9), w.Due(3, 9)
	spare := one[:cap(one)]
	for i := range spare {
		spare[i] = 77
	}
	if want := []api.Handle{1, 2, 3, 4, 5}; !slices.Equal(two, want) || !slices.Equal(w.Due(3, 9), want) {
		t.Error("what one answer holds is seen in another, or in the wheel")
	}
	takes(t, w, 1, true)
	w.Set(9, 1)
	if two[0] != 1 || two[4] != 5 {
		t.Error("the wheel's changes are seen in an answer")
	}
}

// P7.9: by First and Take each entry is told once, expiries never fall, of one expiry the one set first comes first.
func TestToTheEnd(t *testing.T) {
	w := tide.NewWheel()
	const n = 4000
	set := map[api.Handle]row{}
	for i := range n {
		h := api.Handle(i * 7919 % n)
		r := row{api.Handle(i), 1 + i*i%97}
		w.Set(h, r.expiry)
		set[h] = r // the row's handle is the entry's turn here
	}
	was := row{}
	for range n {
		h, e, ok := w.First()
		r, is := set[h]
		if !ok || !is || r.expiry != e || e < was.expiry || e == was.expiry && r.handle < was.handle {
			t.Fatalf("First: %d, %d, %v behind %v", h, e, ok, was)
		}
		was = r
		delete(set, h)
		takes(t, w, h, true)
	}
	holds(t, w)
}

// R4: two wheels know nothing of each other.
func TestWheelsApart(t *testing.T) {
	one, two := tide.NewWheel(), tide.NewWheel()
	one.Set(1, 5)
	two.Set(1, 3)
	two.Set(2, 3)
	takes(t, one, 2, false)
	takes(t, two, 1, true)
	holds(t, one, row{1, 5})
	holds(t, two, row{2, 3})
}
