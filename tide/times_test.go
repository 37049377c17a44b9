package tide_test

import (
	"math"
	"testing"

	"granary/tide"
)

// P7.1: never, at once, so many ticks on, at a tick; and what now counts as.
func TestExpiry(t *testing.T) {
	for _, x := range []struct{ now, t, expiry int }{
		{1, -1, 1},
		{10, relative, 2592010},
		{10, relative + 1, 2592001},
		{10, -9, 10},
		{0, 5, 6},
		{1 << 50, -1, most},
		{10, 0, 0},
		{100, 60, 160},
		{10, 1, 11},
		{1, relative - 1, relative},
		{1, relative, relative + 1},
		// A tick of its own is told as it is, also one that has been, or that never comes.
		{most, relative + 1, relative + 1},
		{5, most, most},
		{5, most + 1, most + 1},
		{5, math.MaxInt, math.MaxInt},
		// The clock's edges, and past them.
		{most, 1, most + 1},
		{most, relative, most + relative},
		{most, -1, most},
		{most + 1, 1, most + 1},
		{math.MaxInt, relative, most + relative},
		{math.MaxInt, math.MaxInt, math.MaxInt},
		{math.MaxInt, math.MinInt, most},
		{1, 1, 2},
		{0, -1, 1},
		{-7, 3, 4},
		{math.MinInt, relative, relative + 1},
		{math.MinInt, math.MinInt, 1},
		{math.MinInt, 0, 0},
		{math.MaxInt, 0, 0},
	} {
		if e := tide.Expiry(x.now, x.t); e != x.expiry {
			t.Errorf("Expiry(%d, %d) is %d, not %d", x.now, x.t, e, x.expiry)
		}
	}
}

// P7.2: expired from its tick on, or flushed up to the cut; else neither.
func TestDead(t *testing.T) {
	for _, x := range []struct {
		expiry int
		token  uint64
		now    int
		cut    uint64
		dead   bool
	}{
		{1, 1, 1, 0, true},
		{5, 1, 5, 0, true},
		{6, 1, 5, 0, false},
		{5, 1, 6, 0, true},
		{0, 1, most, 0, false},
		{-3, 1, most, 0, false},
		{-3, 1, -3, 0, false},
		{-3, 1, 0, 0, false},
		{0, 1, 0, 0, false},
		{1, 1, 0, 0, false},
		{0, 7, 0, 7, true},
		{0, 6, 0, 7, true},
		{0, 8, 0, 7, false},
		{0, 0, 0, 0, true},
		{5, 0, 1, 0, true},
		{1, 8, 1, 7, true},
		{160, 1, 160, 0, true},
		{160, 1, 159, 0, false},
		{math.MaxInt, 1, math.MaxInt, 0, true},
		{math.MaxInt, 1, math.MaxInt - 1, 0, false},
		{math.MinInt, 1, math.MaxInt, 0, false},
		{math.MaxInt, math.MaxUint64, math.MinInt, math.MaxUint64 - 1, false},
		{math.MaxInt, math.MaxUint64, math.MinInt, math.MaxUint64, true},
		{0, 1 << 63, 1, 1<<63 - 1, false},
		{0, 1<<63 - 1, 1, 1 << 63, true},
	} {
		if d := tide.Dead(x.expiry, x.token, x.now, x.cut); d != x.dead {
			t.Errorf("Dead of %+v is %v", x, d)
		}
	}
}

// The two together: what is stored with a time is dead from the tick on that the document names.
func TestExpiryIsDead(t *testing.T) {
	for _, x := range []struct{ now, t, from int }{
		{100, 60, 160}, {1, -1, 1}, {7, math.MinInt, 7}, {10, relative, 10 + relative}, {10, relative + 1, relative + 1}, {most - 1, 1, most},
	} {
		e := tide.Expiry(x.now, x.t)
		if !tide.Dead(e, 1, x.from, 0) || tide.Dead(e, 1, x.from-1, 0) {
			t.Errorf("stored at %d with %d, it is not dead just from %d on", x.now, x.t, x.from)
		}
	}
	if tide.Dead(tide.Expiry(9, 0), 1, most, 0) {
		t.Error("what never expires is dead")
	}
}
