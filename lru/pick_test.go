package lru_test

import (
	"math"
	"slices"
	"testing"

	"granary/api"
)

// standing is a world with a row of class 0, as Pick and Walk go through it: two of cold, three of warm, two of hot.
func standing(t *testing.T) (*world, []api.Handle) {
	t.Helper()
	w := begun(t, 45, 45)
	hot, warm, cold := w.row(0, api.Hot, 2), w.row(0, api.Warm, 3), w.row(0, api.Cold, 2)
	w.row(1, api.Cold, 2)
	return w, slices.Concat(backward(cold), backward(warm), backward(hot))
}

// P8.4: the row goes from cold's tail to hot's head, and looks bound who is looked at.
func TestLooks(t *testing.T) {
	w, row := standing(t)
	for _, looks := range []int{math.MinInt, -1, 0} {
		w.pick(0, 0, looks, func(h api.Handle) bool { t.Error("dead was asked"); return true }, 0, false, 0)
		w.pick(0, 0, looks, nil, 0, false, 0)
	}
	for _, looks := range []int{1, 2, 3, 4, 5, 6, 7, 8, 99, math.MaxInt} {
		n := min(looks, len(row))
		w.pick(0, 0, looks, nil, row[0], false, n)
		for i, h := range row {
			if i < n {
				w.pick(0, 0, looks, in(h), h, true, i+1)
			} else {
				w.pick(0, 0, looks, in(h), row[0], false, n)
			}
		}
	}
}

// P8.4: own is passed over wherever it stands, and not counted; a strange own is nobody.
func TestOwn(t *testing.T) {
	w, row := standing(t)
	for _, own := range append([]api.Handle{0, 2, math.MaxUint64, w.laid(0), w.laid(1)}, row...) {
		seen := slices.DeleteFunc(slices.Clone(row), func(h api.Handle) bool { return h == own })
		for looks := 1; looks <= 9; looks++ {
			n := min(looks, len(seen))
			w.pick(0, own, looks, nil, seen[0], false, n)
			w.pick(0, own, looks, in(own), seen[0], false, n)
			w.pick(0, own, looks, in(seen[n-1], own), seen[n-1], true, n)
		}
	}
}

// P8.4: dead is asked just of each item that is looked at, once, in the row's order, until it says true.
func TestDeadIsAsked(t *testing.T) {
	w, row := standing(t)
	for _, own := range append([]api.Handle{0}, row...) {
		seen := slices.DeleteFunc(slices.Clone(row), func(h api.Handle) bool { return h == own })
		for looks := range 9 {
			for last := range 8 { // the one of which dead says true; beyond the row: none
				var asked []api.Handle
				w.lru.Pick(0, own, looks, func(h api.Handle) bool {
					asked = append(asked, h)
					return len(asked) == last+1
				})
				if must := seen[:min(looks, last+1, len(seen))]; !slices.Equal(asked, must) {
					t.Errorf("own %d, looks %d, dead %d: asked of %d, not %d", own, looks, last, asked, must)
				}
			}
		}
	}
}

// P8.4, P8.8: a dead one ahead of all, then the first that is not active, then the first of all.
func TestWhoIsNamed(t *testing.T) {
	for hits := range 1 << 7 {
		w, row := standing(t)
		var spared []api.Handle
		for i, h := range row {
			if hits>>i&1 == 1 {
				w.hit(h)
				spared = append(spared, h)
			}
		}
		for looks := 1; looks <= 7; looks++ {
			must := row[0]
			if i := slices.IndexFunc(row[:looks], func(h api.Handle) bool { return !slices.Contains(spared, h) }); i > 0 {
				must = row[i]
			}
			w.pick(0, 0, looks, nil, must, false, looks)
			w.pick(0, 0, looks, in(), must, false, looks)
			w.pick(0, 0, looks, in(row[looks-1]), row[looks-1], true, looks)
		}
	}
}

// P8.4: a dead one is named, active or not, and though one that is not active stands ahead of it.
func TestDeadAndActive(t *testing.T) {
	w, row := standing(t)
	w.hit(row[3])
	w.pick(0, 0, 5, in(row[3], row[4]), row[3], true, 4)
	w.pick(0, row[3], 5, in(row[3], row[4]), row[4], true, 4)
}

// P8.4: Pick changes nothing.
func TestPickChangesNothing(t *testing.T) {
	w, row := standing(t)
	w.hit(row[0], row[4])
	w.stands("Pick", func() {
		for looks := range 9 {
			w.lru.Pick(0, row[looks%7], looks, nil)
			w.lru.Pick(0, 0, looks, in(row[3]))
		}
	})
}

// P8.4: of an empty class, and of one with nothing but own, nobody is named; each class has its own row.
func TestPickOfClasses(t *testing.T) {
	w := begun(t, 30, 30)
	for c := range classes {
		w.pick(c, 0, 5, nil, 0, false, 0)
	}
	h := w.entered(1, 1)[0]
	w.pick(0, 0, 5, nil, 0, false, 0)
	w.pick(1, 0, 5, nil, h, false, 1)
	w.pick(1, 0, 5, in(h), h, true, 1)
	w.pick(1, h, 5, in(h), 0, false, 0)
	w.pick(2, 0, 5, nil, 0, false, 0)
}
