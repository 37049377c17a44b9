package lru_test

import (
	"math"
	"testing"

	"granary/api"
	"granary/class"
	"granary/item"
	"granary/lru"
	"granary/queue"
)

func refused(w *world, what string, call func() (*lru.Lru, api.Errno)) {
	w.Helper()
	if l, e := call(); l != nil || e != api.ErrArg {
		w.Errorf("%s: %v, %v", what, l, e)
	}
}

// P8.1, R3: what New refuses; nothing has changed behind it.
func TestNewRefuses(t *testing.T) {
	w := begun(t, 30, 30)
	w.entered(0, 3)
	w.stands("what New refused", func() {
		for _, x := range [][2]int{
			{0, 5}, {5, 0}, {0, 0}, {-1, 5}, {5, -1}, {-5, 90}, {90, -5}, {0, 90}, {90, 0}, {-10, 100}, {100, -10},
			{45, 46}, {46, 45}, {90, 1}, {1, 90}, {89, 2}, {91, 1}, {100, 100},
			{math.MaxInt, math.MaxInt}, {math.MaxInt, 1}, {1, math.MaxInt}, {1 << 62, 1 << 62}, {math.MinInt, math.MinInt}, {math.MinInt, 5}, {math.MinInt, math.MaxInt},
		} {
			refused(w, "New of such shares", func() (*lru.Lru, api.Errno) { return lru.New(w.set, w.queue, x[0], x[1]) })
		}
		refused(w, "New without chunks", func() (*lru.Lru, api.Errno) { return lru.New(nil, w.queue, 30, 30) })
		refused(w, "New without queues", func() (*lru.Lru, api.Errno) { return lru.New(w.set, nil, 30, 30) })
		refused(w, "New without both", func() (*lru.Lru, api.Errno) { return lru.New(nil, nil, 30, 30) })
		refused(w, "New of nothing", func() (*lru.Lru, api.Errno) { return lru.New(nil, nil, 0, 0) })
	})
}

// P8.1: the shares that are at the edge.
func TestNewTakes(t *testing.T) {
	for _, x := range [][2]int{{1, 1}, {1, 89}, {89, 1}, {45, 45}, {30, 60}} {
		w := begun(t, x[0], x[1])
		row := w.entered(0, 50)
		w.lru.Balance(0, 1000, nil)
		hot := x[0] / 2 // of fifty
		w.lengths(0, hot, 0, 50-hot)
		w.hit(row...)
		w.lru.Balance(0, 1000, nil)
		w.lengths(0, hot, x[1]/2, 50-hot-x[1]/2)
	}
}

// P8.1: what the queues hold already is the Lru's too, and New changes nothing.
func TestNewOverQueues(t *testing.T) {
	w := begun(t, 30, 30)
	cold, warm, hot := w.row(1, api.Cold, 3), w.row(1, api.Warm, 2), w.row(1, api.Hot, 1)
	w.stands("New", func() {
		l, e := lru.New(w.set, w.queue, 40, 40)
		if e != api.OK {
			t.Fatal("New:", e)
		}
		w.lru = l
	})
	w.lengths(1, 1, 2, 3)
	w.walks(1, append(append(backward(cold), backward(warm)...), hot...)...)
	w.hit(cold[0])
	w.is("Enter", w.lru.Enter(warm[1]), api.ErrTwice)
	w.is("Leave", w.lru.Leave(warm[1]), api.OK)
	w.pick(1, cold[2], 9, nil, cold[1], false, 4)
}

// notGood are handles that are not good beside a good one.
func notGood(w *world, h api.Handle) []api.Handle {
	given := w.laid(0)
	w.is("class.Give", w.set.Give(given), api.OK)
	return []api.Handle{0, 2, h + 4, given, 1026, 1537, h + 1<<32, h | 1<<63, 1 << 32, math.MaxUint64}
}

// P8.2, R3: what Enter, Leave and Hit refuse; nothing has changed behind it.
func TestRefusals(t *testing.T) {
	for kind := api.Hot; kind <= api.Cold; kind++ {
		w := begun(t, 30, 30)
		row := w.row(0, kind, 3)
		w.hit(row[1])
		out := w.laid(0)
		bad := append(notGood(w, out), w.taken(0))
		w.stands("what was refused", func() {
			for _, h := range bad {
				w.is("Enter of no item", w.lru.Enter(h), api.ErrHandle)
				w.is("Leave of no item", w.lru.Leave(h), api.ErrHandle)
				w.is("Hit of no item", w.lru.Hit(h), api.ErrHandle)
			}
			for _, h := range row {
				w.is("Enter of what stands in a queue", w.lru.Enter(h), api.ErrTwice)
			}
			w.is("Leave of what stands nowhere", w.lru.Leave(out), api.ErrHandle)
			w.is("Hit of what stands nowhere", w.lru.Hit(out), api.ErrHandle)
		})
		w.active(row, row[1])
	}
}

// P8.2: an item that has left may be hit no more; one that has left and enters anew is not active.
func TestLeaveAndEnter(t *testing.T) {
	w := begun(t, 30, 30)
	row := w.entered(0, 3)
	w.hit(row...)
	w.active(row, row...)
	w.is("Leave", w.lru.Leave(row[1]), api.OK)
	w.active(row, row...)
	w.holds(api.Hot, row[2], row[0])
	if n, _ := item.State(w.set, row[1]); n != api.None {
		t.Error("state of one that has left:", n)
	}
	w.is("Leave again", w.lru.Leave(row[1]), api.ErrHandle)
	w.is("Hit", w.lru.Hit(row[1]), api.ErrHandle)
	w.is("Enter", w.lru.Enter(row[1]), api.OK)
	w.active(row, row[0], row[2])
	w.holds(api.Hot, row[1], row[2], row[0])
}

// P8.2: each mark beside the active one stays as it was, whatever it was.
func TestMarksStay(t *testing.T) {
	for marks := range 16 {
		w := begun(t, 30, 30)
		h := w.laid(0)
		says := func(what string, e api.Errno, must int) {
			t.Helper()
			w.is(what, e, api.OK)
			if n, _ := item.Marks(w.set, h); n != must {
				t.Errorf("%s: marks %d, not %d", what, n, must)
			}
		}
		calm := marks &^ api.MarkActive
		says("item.SetMarks", item.SetMarks(w.set, h, marks), marks)
		says("Enter", w.lru.Enter(h), calm)
		says("Hit", w.lru.Hit(h), calm|api.MarkActive)
		says("Hit again", w.lru.Hit(h), calm|api.MarkActive)
		w.balance(0, 1, 1)
		w.holds(api.Warm, h)
		says("a move to warm", api.OK, calm)
		w.balance(0, 9, 1)
		w.holds(api.Cold, h)
		says("a move to cold", api.OK, calm)
		says("Hit", w.lru.Hit(h), calm|api.MarkActive)
		says("Leave", w.lru.Leave(h), calm|api.MarkActive)
	}
}

// P8.3 to P8.6: classes that are not there.
func TestNoClass(t *testing.T) {
	w := begun(t, 30, 30)
	for c := range classes {
		w.entered(c, 3)
	}
	asked := func(h api.Handle) bool { t.Error("dead was asked of", h); return true }
	left := func(h api.Handle) { t.Error("left was told", h) }
	w.stands("calls of no class", func() {
		for _, c := range []int{math.MinInt, -1, classes, 9, math.MaxInt} {
			w.lengths(c, 0, 0, 0)
			w.walks(c)
			w.pick(c, 0, 5, asked, 0, false, 0)
			if n := w.lru.Balance(c, 5, left); n != 0 {
				t.Errorf("Balance(%d): %d", c, n)
			}
		}
	})
}

// R1: sets that New did not give, and queues over another set.
func TestStrangeParts(t *testing.T) {
	one, two := begun(t, 30, 30), begun(t, 30, 30)
	one.entered(0, 40)
	for _, x := range []struct {
		s *class.Set
		q *queue.Set
	}{{&class.Set{}, one.queue}, {one.set, &queue.Set{}}, {&class.Set{}, &queue.Set{}}, {two.set, one.queue}} {
		l, e := lru.New(x.s, x.q, 30, 30)
		if e != api.OK {
			t.Fatal("New:", e)
		}
		every(l, append(one.walk(0), 0, 1, math.MaxUint64))
	}
}
