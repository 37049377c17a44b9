package store_test

import (
	"math"
	"testing"

	"granary/api"
)

// P10.11: now: what was stored ahead of it is dead, what is stored behind it in the same tick is not.
func TestFlushNow(t *testing.T) {
	for _, exptime := range []int{0, -1, -5, math.MinInt} {
		w := begun(t)
		w.sets("1", "a", "b")
		w.is(flush(exptime), api.Fine)
		w.why()
		w.sets("2", "c")
		w.lacks("a", "b")
		w.holds("c", "2")
		w.resident(3, 0, 0)
		if st := w.State(); st != (api.State{Now: 1, Issued: 3, Cut: 2}) {
			t.Errorf("State: %v", st)
		}
		// A touch moves nothing behind a flush, and finds nothing there.
		w.is(till(verb(api.Touch, "a"), 0), api.NotFound)
		w.why(3)
		w.tells(till(verb(api.Gat, "b", "c"), 0), "c")
		w.why(3, 0)
	}
}

// P10.11: later: all that was stored ahead of that tick is dead from it on.
func TestFlushLater(t *testing.T) {
	w := begun(t)
	w.sets("1", "a")
	w.is(flush(3), api.Fine)
	w.sets("2", "b", "x")
	w.ticks(2)
	w.sets("3", "c")
	w.is(verb(api.Touch, "a"), api.Touched)
	w.counts(by(api.Incr, "x", 1), 3)
	w.tells(get("a", "b", "c", "x"), "a", "b", "c", "x")
	w.ticks(1)
	w.lacks("a", "b", "c", "x")
	w.sets("4", "d")
	w.holds("d", "4")
	if st := w.State(); st != (api.State{Now: 4, Issued: 6, Cut: 5}) {
		t.Errorf("State: %v", st)
	}

	// One over which the clock jumps is done at the jump.
	w = begun(t)
	w.is(flush(3), api.Fine)
	w.sets("1", "a")
	w.ticks(100)
	w.lacks("a")
}

// P10.11: a later flush takes the place of one that is pending, one that is now too.
func TestFlushAgain(t *testing.T) {
	w := begun(t)
	w.is(flush(3), api.Fine)
	w.is(flush(9), api.Fine)
	w.sets("1", "a")
	w.ticks(5)
	w.holds("a", "1")
	w.is(flush(-1), api.Fine)
	w.lacks("a")
	w.sets("2", "a")
	w.ticks(50)
	w.holds("a", "2")
	w.is(flush(math.MaxInt), api.Fine)
	if st := w.State(); st.Pending != 1<<40+1 {
		t.Errorf("State: %v", st)
	}
	w.holds("a", "2")
}

// P10.11: the crawler begins its round again.
func TestFlushBeginsTheRound(t *testing.T) {
	w := paced(t, small(), api.Pace{Crawl: 1})
	w.sets("1", "a") // it is looked at
	w.sets("1", "b") // the round is over
	w.sets("1", "c") // a is looked at: b is next
	w.is(flush(0), api.Fine)
	w.meter(api.Meter{Crawled: 1})
	w.resident(2, 0, 0)
	w.tells(get("a"))
	w.why(1)
}

// P10.14: what Tick refuses; Meter and Why tell what they told ahead of it, and all is as it was.
func TestTickRefused(t *testing.T) {
	w := opened(t, small())
	w.sets("1", names(30)...)
	w.tells(get("k000", "none"), "k000")
	if w.Meter() == (api.Meter{}) {
		t.Error("there is nothing to be told")
	}
	for _, x := range []struct {
		n    int
		must api.Errno
	}{{0, api.ErrArg}, {-1, api.ErrArg}, {math.MinInt, api.ErrArg}, {1 << 40, api.ErrClock}, {1<<40 + 1, api.ErrClock}, {math.MaxInt, api.ErrClock}} {
		w.still("a tick that is refused", func() {
			if e := w.Tick(x.n); e != x.must {
				t.Errorf("Tick(%d): %v, not %v", x.n, e, x.must)
			}
		})
	}
	w.why(0, 1)
	w.ticks(1<<40 - 1)
	w.still("a tick at the clock's end", func() {
		if e := w.Tick(1); e != api.ErrClock {
			t.Error(e)
		}
	})
	// All else goes on there.
	w.stores(till(set("k", "x"), 5))
	w.holds("k", "x")
	w.stores(till(set("k", "x"), -1))
	w.lacks("k")
}

// P10.14: behind a tick the crawler looks at 64 items, and nothing else is done.
func TestTick(t *testing.T) {
	w := paced(t, small(), api.Pace{Links: 3})
	w.sets("1", names(100)...)
	w.is(flush(0), api.Fine)
	w.tells(get("k000"))
	w.why(3)
	w.resident(99, 0, 0)
	w.ticks(1)
	w.meter(api.Meter{Crawled: 64})
	w.why()
	w.resident(35, 0, 0)
	w.ticks(5)
	w.meter(api.Meter{Crawled: 35})
	w.resident(0, 0, 0)
	w.ticks(1)
	w.meter(api.Meter{})
	if w.Now() != 8 {
		t.Errorf("Now: %d", w.Now())
	}
}

// P10.14, P10.12: what expires is told to the wheel, and is looked at first.
func TestTickTakesWhatIsDue(t *testing.T) {
	w := paced(t, small(), api.Pace{})
	w.sets("1", names(200)...)
	w.tells(till(verb(api.Gat, "k150"), 3), "k150")
	w.is(till(verb(api.Touch, "k151"), 3), api.Touched)
	w.stores(till(set("k152", "x"), 3))
	w.stores(till(set("new", "x"), 3))
	if a := w.Stamp("k153", 0, 3, true); a.Kind != api.Stored {
		t.Error(a)
	}
	w.tells(till(verb(api.Gat, "k154"), 3), "k154")
	w.is(till(verb(api.Touch, "k154"), 0), api.Touched) // it has no time any more
	w.stores(till(set("k155", "x"), 3))
	w.stores(set("k155", "x")) // nor has this one
	w.ticks(2)
	w.resident(201, 0, 0)
	w.ticks(1)
	w.resident(196, 0, 0)
	w.meter(api.Meter{Crawled: 64})
	w.tells(get("k150", "k151", "k152", "k153", "new", "k154", "k155"), "k154", "k155")
	w.why(1, 1, 1, 1, 1, 0, 0)
}

// P10.3: the clock and the cut are asked at every look: times of each kind.
func TestTimes(t *testing.T) {
	w := paced(t, small(), api.Pace{})
	w.ticks(9)
	for key, exptime := range map[string]int{"never": 0, "soon": 3, "far": 2592000, "that": 2592001, "past": -7} {
		w.stores(till(set(key, "1"), exptime))
	}
	w.lacks("past")
	w.ticks(2)
	w.holds("soon", "1")
	w.ticks(1)
	w.lacks("soon")
	w.ticks(2592000 - 13)
	w.holds("that", "1")
	w.holds("far", "1")
	w.ticks(1)
	w.lacks("that")
	w.ticks(8)
	w.holds("far", "1")
	w.ticks(1)
	w.lacks("far")
	w.holds("never", "1")
	// A time above MaxRelative that is over already.
	w.stores(till(set("over", "1"), 2592002))
	w.lacks("over")
}
