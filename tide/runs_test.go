package tide_test

import (
	"math"
	"testing"

	"granary/api"
	"granary/tide"
)

// The chapter's runs of clocks, line by line.
func TestClockRuns(t *testing.T) {
	if e := tide.Expiry(1, -1); e != 1 || !tide.Dead(e, 1, 1, 0) {
		t.Error("dead at once:", e)
	}
	c := begun(t, 5, 7, 6)
	moves(t, c, 1, 9, api.OK)
	says(t, c, 6, 9, 0)
	c = begun(t, 5, 7, 1<<62)
	moves(t, c, 1, 9, api.OK)
	says(t, c, 6, 7, 1<<62)

	c = clock(t, 1)
	c.Flush(5, 9)
	says(t, c, 1, 0, 6)
	moves(t, c, 4, 20, api.OK)
	says(t, c, 5, 0, 6)
	moves(t, c, 1, 30, api.OK)
	says(t, c, 6, 30, 0)

	c = clock(t, 1)
	c.Flush(5, 9)
	moves(t, c, 100, 30, api.OK)
	says(t, c, 101, 30, 0)

	c = clock(t, 1)
	c.Flush(5, 9)
	c.Flush(0, 12)
	moves(t, c, 5, 30, api.OK)
	says(t, c, 6, 12, 0)

	c = clock(t, 1)
	c.Flush(math.MaxInt, 9)
	says(t, c, 1, 0, most+1)
	moves(t, c, most-1, 30, api.OK)
	says(t, c, most, 0, most+1)
}

// The chapter's runs of wheels, line by line.
func TestWheelRuns(t *testing.T) {
	w := tide.NewWheel()
	w.Set(3, 9)
	w.Set(3, 4)
	first(t, w, row{3, 4})
	w.Set(3, 0)
	first(t, w)

	w.Set(8, 5)
	w.Set(2, 5)
	first(t, w, row{8, 5})
	due(t, w, 5, 1, 8)
	w.Set(8, 5)
	first(t, w, row{2, 5})
	due(t, w, 9, 9, 2, 8)
	due(t, w, 4, 9)
	due(t, w, 5, 0)
	due(t, w, 5, -1)
	takes(t, w, 8, true)
	takes(t, w, 8, false)
	holds(t, w, row{2, 5})
}

// The chapter's second example: a flush that is pending, an item stored ahead of it and one behind.
func TestPendingExample(t *testing.T) {
	c := clock(t, 1)
	c.Flush(2, 0)
	moves(t, c, 1, 1, api.OK)
	if tide.Dead(0, 1, c.Now(), c.Cut()) {
		t.Error("a is dead ahead of the flush")
	}
	moves(t, c, 1, 1, api.OK)
	says(t, c, 3, 1, 0)
	if !tide.Dead(0, 1, c.Now(), c.Cut()) || tide.Dead(0, 2, c.Now(), c.Cut()) {
		t.Error("not a alone is dead behind the flush")
	}
}

// The chapter's third example: any number is a handle.
func TestAnyHandle(t *testing.T) {
	w := tide.NewWheel()
	takes(t, w, 0, false)
	takes(t, w, math.MaxUint64, false)
	w.Set(math.MaxUint64, 3)
	w.Set(0, 3)
	holds(t, w, row{math.MaxUint64, 3}, row{0, 3})
	w.Set(math.MaxUint64, 3)
	holds(t, w, row{0, 3}, row{math.MaxUint64, 3})
	takes(t, w, 0, true)
	takes(t, w, math.MaxUint64, true)
	holds(t, w)
}
