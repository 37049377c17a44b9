package tide_test

import (
	"math"
	"testing"

	"granary/api"
	"granary/tide"
)

// P7.3: what New refuses, and what a clock tells that it made.
func TestNew(t *testing.T) {
	for _, x := range []struct{ now, pending int }{
		{0, 0}, {-1, 0}, {math.MinInt, 0}, {most + 1, 0}, {math.MaxInt, 0},
		{5, 5}, {5, 4}, {5, 1}, {5, -1}, {5, math.MinInt}, {most, most}, {most, 1}, {1, 1}, {0, 5}, {most + 1, most + 2}, {-5, -1},
	} {
		for _, cut := range []uint64{0, 7, math.MaxUint64} {
			if c, e := tide.New(x.now, cut, x.pending); c != nil || e != api.ErrArg {
				t.Errorf("New(%d, %d, %d): %v, %v", x.now, cut, x.pending, c, e)
			}
		}
	}
	for _, x := range []struct{ now, pending int }{
		{1, 0}, {1, 2}, {5, 6}, {most, 0}, {most, most + 1}, {5, 1 << 62}, {most, math.MaxInt},
	} {
		for _, cut := range []uint64{0, 7, math.MaxUint64} {
			says(t, begun(t, x.now, cut, x.pending), x.now, cut, x.pending)
		}
	}
}

// P7.4: now, or later; what was pending is forgotten in both.
func TestFlush(t *testing.T) {
	c := clock(t, 1)
	c.Flush(0, 12)
	says(t, c, 1, 12, 0)
	c.Flush(0, 3)
	says(t, c, 1, 12, 0)
	c.Flush(-4, 13)
	says(t, c, 1, 13, 0)
	c.Flush(math.MinInt, math.MaxUint64)
	says(t, c, 1, math.MaxUint64, 0)

	c = begun(t, 7, 3, 9)
	c.Flush(5, 9)
	says(t, c, 7, 3, 12)
	c.Flush(1, 9)
	says(t, c, 7, 3, 8)
	c.Flush(-1, 2)
	says(t, c, 7, 3, 0)
}

// P7.4: a flush that would come behind the clock's end never comes.
func TestFlushAtTheEnd(t *testing.T) {
	for _, x := range []struct{ now, t, pending int }{
		{1, most - 1, most}, {1, most, most + 1}, {1, most + 1, most + 1}, {1, math.MaxInt, most + 1},
		{most - 1, 1, most}, {most - 1, 2, most + 1}, {most, 1, most + 1}, {most, math.MaxInt, most + 1},
	} {
		c := clock(t, x.now)
		c.Flush(x.t, 5)
		says(t, c, x.now, 0, x.pending)
	}
	c := clock(t, 1)
	c.Flush(most-1, 5)
	moves(t, c, most-1, 6, api.OK)
	says(t, c, most, 6, 0)
	c = clock(t, 1)
	c.Flush(most, 5)
	moves(t, c, most-1, 6, api.OK)
	says(t, c, most, 0, most+1)
}

// P7.5: the clock moves on; a pending flush is done when its tick is reached, or jumped over.
func TestMove(t *testing.T) {
	c := clock(t, 1)
	moves(t, c, 1, 50, api.OK)
	says(t, c, 2, 0, 0)
	c.Flush(5, 9)
	moves(t, c, 4, 20, api.OK)
	says(t, c, 6, 0, 7)
	moves(t, c, 1, 30, api.OK)
	says(t, c, 7, 30, 0)
	moves(t, c, 5, 99, api.OK)
	says(t, c, 12, 30, 0)

	c = clock(t, 1)
	c.Flush(5, 9)
	moves(t, c, 100, 30, api.OK)
	says(t, c, 101, 30, 0)

	// The cut never falls, whatever is said to be issued.
	c = begun(t, 5, 40, 6)
	moves(t, c, 1, 9, api.OK)
	says(t, c, 6, 40, 0)
}

// P7.5, R3: what Move refuses, in its order; nothing has changed then.
func TestMoveRefused(t *testing.T) {
	for _, now := range []int{1, 2, most - 1, most} {
		c := begun(t, now, 3, now+1)
		for _, by := range []int{0, -1, math.MinInt} {
			moves(t, c, by, 50, api.ErrArg)
		}
		for _, by := range []int{most - now + 1, most, most + 1, math.MaxInt, math.MaxInt - now} {
			moves(t, c, by, 50, api.ErrClock)
		}
		says(t, c, now, 3, now+1)
	}
	c := clock(t, 2)
	moves(t, c, most-2, 50, api.OK)
	says(t, c, most, 0, 0)
}

// The chapter: a clock at its end moves no more, and answers all else.
func TestClockAtItsEnd(t *testing.T) {
	c := clock(t, most)
	moves(t, c, 1, 5, api.ErrClock)
	moves(t, c, 0, 5, api.ErrArg)
	c.Flush(0, 4)
	says(t, c, most, 4, 0)
	c.Flush(3, 9)
	says(t, c, most, 4, most+1)
	moves(t, c, 1, 50, api.ErrClock)
	says(t, c, most, 4, most+1)
	c.Flush(0, 9)
	says(t, c, most, 9, 0)
}

// R4: two clocks know nothing of each other.
func TestClocksApart(t *testing.T) {
	one, two := clock(t, 5), clock(t, 5)
	one.Flush(2, 7)
	one.Move(2, 9)
	one.Flush(8, 9)
	says(t, two, 5, 0, 0)
	says(t, one, 7, 9, 15)
}
