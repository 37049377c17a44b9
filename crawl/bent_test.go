package crawl_test

import (
	"math"
	"math/rand"
	"testing"

	"granary/api"
	"granary/crawl"
	"granary/item"
	"granary/queue"
	"granary/tide"
)

// every makes each call with these handles; what is answered is not looked at.
func every(c *crawl.Crawler, handles []api.Handle) {
	for _, most := range []int{1, 2, math.MaxInt, math.MinInt, 3} {
		c.Step(1, most)
		for _, h := range handles {
			c.Left(h)
		}
		c.Place()
		c.Step(math.MaxInt, most)
		c.Step(math.MinInt, most)
	}
	c.Again()
	c.Step(1, 9)
}

// ignoring is a Crawler that finds everybody dead, and whose take takes nobody away.
func ignoring(w *world, q *queue.Set, wheel *tide.Wheel) *crawl.Crawler {
	w.Helper()
	c, e := crawl.New(q, wheel, api.MaxClasses, func(api.Handle) bool { return true }, func(api.Handle) {})
	w.is("New", e, api.OK)
	return c
}

// R1: a take that takes nobody away; each Step ends, and looks at no more than there is.
func TestTakeThatDoesNot(t *testing.T) {
	w := begun(t, 1)
	row := w.row(api.Cold, "abc")
	w.wheel.Set(row[0], 1)
	c := ignoring(w, w.queue, w.wheel)
	for range 3 {
		if looked, taken := c.Step(1, 99); looked != 4 || taken != 4 {
			t.Errorf("Step: %d %d", looked, taken)
		}
	}
}

// R1: lists and wheels that New did not give.
func TestStrangeParts(t *testing.T) {
	w := begun(t, 1)
	row := w.row(api.Cold, "abc")
	every(ignoring(w, &queue.Set{}, w.wheel), row)
	every(ignoring(w, w.queue, &tide.Wheel{}), row)
	every(ignoring(w, &queue.Set{}, &tide.Wheel{}), row)
}

// R1: the next item goes without Left's being told: out of its list, to another one, its chunk given.
func TestNotTold(t *testing.T) {
	for kind := api.Hot; kind <= api.Cold; kind++ {
		for way := range 4 {
			w := begun(t, 3)
			row := w.row(api.Warm, "abcde")
			w.pushed("x", 0, api.Hot, 0)
			w.looks(1, "a")
			switch way {
			case 0:
				w.queue.Drop(row[1])
			case 1:
				w.queue.Shift(row[1], kind)
			case 2:
				w.set.Give(row[1])
			default:
				w.queue.Drop(row[1])
				w.queue.Push(row[1], kind)
			}
			w.crawl.Step(1, math.MaxInt)
			every(w.crawl, row)
		}
	}
}

// R1: links that were bent, each to each: the round is over all the same.
func TestRings(t *testing.T) {
	for from := range 5 {
		for to := range 5 {
			for which := 1; which <= 2; which++ {
				w := begun(t, 1)
				row := w.row(api.Cold, "abcde")
				w.is("item.SetLink", item.SetLink(w.set, row[from], which, row[to]), api.OK)
				if looked, _ := w.crawl.Step(1, math.MaxInt); looked > 5 {
					t.Errorf("of five items %d were looked at", looked)
				}
				w.place(0, 1)
				every(w.crawl, row)
			}
		}
	}
}

// spoil does what nobody may do with an item that stands in a list.
func spoil(w *world, r *rand.Rand, h, other api.Handle) {
	switch r.Intn(7) {
	case 0:
		w.set.Give(h)
	case 1:
		item.Lay(w.set, h, api.Item{Key: []byte("n"), State: 1 + r.Intn(4)})
	case 2:
		item.SetState(w.set, h, 1+r.Intn(4))
	case 3:
		w.queue.Drop(h)
	case 4:
		w.queue.Shift(h, 1+r.Intn(3))
	default:
		item.SetLink(w.set, h, 1+r.Intn(2), other)
	}
}

// R1: whatever is done to the items, each call ends, and none panics.
func TestSpoiled(t *testing.T) {
	for seed := range int64(60) {
		w, r := begun(t, 3), rand.New(rand.NewSource(seed))
		handles := w.row(api.Cold, "abcdefghijklmnopqrst")
		dead := func(h api.Handle) bool { return r.Intn(4) == 0 }
		take := func(h api.Handle) { w.crawl.Left(h); w.queue.Drop(h); w.wheel.Take(h) }
		c, e := crawl.New(w.queue, w.wheel, 3, dead, take)
		w.is("New", e, api.OK)
		w.crawl = c
		for range 400 {
			h, other := handles[r.Intn(len(handles))], handles[r.Intn(len(handles))]
			switch r.Intn(7) {
			case 0:
				spoil(w, r, h, other)
			case 1:
				w.queue.Push(h, 1+r.Intn(3))
			case 2:
				w.wheel.Set(h, r.Intn(5))
			case 3:
				c.Left(h)
			case 4:
				c.Step(r.Intn(5), math.MaxInt)
			default:
				c.Step(r.Intn(5), r.Intn(9))
			}
		}
		every(c, handles)
	}
}
