package lru_test

import (
	"math"
	"slices"
	"testing"

	"granary/api"
	"granary/item"
)

// P8.3: no steps: links below 1, and empty queues.
func TestBalanceOfNothing(t *testing.T) {
	left := func(h api.Handle) { t.Error("left was told", h) }
	w := begun(t, 30, 30)
	w.stands("Balance of empty queues", func() {
		for c := range classes {
			if n := w.lru.Balance(c, math.MaxInt, left); n != 0 {
				t.Errorf("Balance(%d): %d", c, n)
			}
		}
	})
	row := w.entered(0, 5)
	w.hit(row[0])
	w.stands("Balance without links", func() {
		for _, links := range []int{0, -1, -9, math.MinInt} {
			if n := w.lru.Balance(0, links, left); n != 0 {
				t.Errorf("Balance of %d links: %d", links, n)
			}
		}
	})
}

// P8.3: the first step: hot's tail goes to warm or cold, as long as hot is above its share, and no longer.
func TestStepOfHot(t *testing.T) {
	for hot := range 7 {
		for _, hit := range []bool{false, true} {
			w := begun(t, 30, 60)
			h, v, c := w.row(0, api.Hot, hot), w.row(0, api.Warm, 2), w.row(0, api.Cold, 5)
			w.hit(c[0]) // it is not the tail
			to, must := api.Cold, append([]api.Handle{}, c...)
			if hit {
				w.hit(h...)
				to, must = api.Warm, v
			}
			if hot <= 3 { // 300 is not above 10 times 30
				w.stands("Balance", func() { w.balance(0, 1, 0) })
				continue
			}
			w.balance(0, 1, 1)
			w.holds(api.Hot, h[:hot-1]...)
			w.holds(to, append([]api.Handle{h[hot-1]}, must...)...)
			if hit {
				w.active(h, h[:hot-1]...)
			} else {
				w.active(h)
			}
		}
	}
}

// P8.3: the second step: warm's tail goes to its own head or to cold, as long as warm is above its share.
func TestStepOfWarm(t *testing.T) {
	for warm := range 8 {
		for _, hit := range []bool{false, true} {
			w := begun(t, 60, 30)
			h, v, c := w.row(0, api.Hot, 2), w.row(0, api.Warm, warm), w.row(0, api.Cold, 5)
			w.hit(h...)
			if hit {
				w.hit(v...)
			}
			if warm <= 3 {
				w.stands("Balance", func() { w.balance(0, 1, 0) })
				continue
			}
			w.balance(0, 1, 1)
			w.holds(api.Hot, h...)
			tail, rest := v[warm-1], v[:warm-1]
			if hit {
				w.holds(api.Warm, append([]api.Handle{tail}, rest...)...)
				w.holds(api.Cold, c...)
				w.active(v, rest...)
			} else {
				w.holds(api.Warm, rest...)
				w.holds(api.Cold, append([]api.Handle{tail}, c...)...)
				w.active(v)
			}
		}
	}
}

// P8.3: the third step: cold's tail goes to warm, if it is active.
func TestStepOfCold(t *testing.T) {
	w := begun(t, 30, 60)
	v, c := w.row(0, api.Warm, 2), w.row(0, api.Cold, 4)
	w.hit(c[0], c[2])
	w.stands("Balance where the tail is not active", func() { w.balance(0, 9, 0) })
	w.hit(c[3])
	w.balance(0, 1, 1)
	w.holds(api.Warm, c[3], v[0], v[1])
	w.holds(api.Cold, c[0], c[1], c[2])
	w.active(c, c[0], c[2])
	w.balance(0, 9, 2) // c[2] too, and then warm, of 4, is above 3.6: its tail goes to cold
	w.holds(api.Warm, c[2], c[3], v[0])
	w.holds(api.Cold, v[1], c[0], c[1])
	w.active(c, c[0])
}

// P8.3: which step is due: hot's ahead of warm's, warm's ahead of cold's.
func TestOrderOfSteps(t *testing.T) {
	w := begun(t, 20, 20)
	h, v, c := w.row(0, api.Hot, 3), w.row(0, api.Warm, 3), w.row(0, api.Cold, 2)
	w.hit(c[1])
	w.balance(0, 1, 1)
	w.holds(api.Cold, h[2], c[0], c[1])
	w.balance(0, 1, 1)
	w.holds(api.Cold, h[1], h[2], c[0], c[1])
	w.balance(0, 1, 1)
	w.holds(api.Cold, v[2], h[1], h[2], c[0], c[1])
	w.balance(0, 1, 1)
	w.holds(api.Cold, v[1], v[2], h[1], h[2], c[0], c[1])
	w.balance(0, 1, 1)
	w.holds(api.Warm, c[1], v[0])
	w.balance(0, 9, 1)
	w.holds(api.Hot, h[0])
	w.holds(api.Warm, c[1])
	w.holds(api.Cold, v[0], v[1], v[2], h[1], h[2], c[0])
	w.balance(0, 9, 0)
}

// P8.3: left is called ahead of each move, with that item's handle, and sees things as they stand ahead of it.
func TestLeft(t *testing.T) {
	w := begun(t, 20, 20)
	h, v, c := w.row(0, api.Hot, 3), w.row(0, api.Warm, 3), w.row(0, api.Cold, 2)
	w.hit(v[2], c[1])
	kinds := []int{api.Hot, api.Hot, api.Warm, api.Warm, api.Warm, api.Cold}
	wants := []api.Handle{h[2], h[1], v[2], v[1], v[0], c[1]}
	var told []api.Handle
	n := w.lru.Balance(0, len(wants), func(one api.Handle) {
		i := len(told)
		told = append(told, one)
		if i >= len(wants) {
			t.Fatal("left was told more than there were links")
		}
		if tail, _ := w.queue.Tail(0, kinds[i]); tail != one {
			t.Errorf("call %d: %d, but the tail of %d is %d", i, one, kinds[i], tail)
		}
		marks, _ := item.Marks(w.set, one)
		if is, must := marks&api.MarkActive != 0, one == v[2] || one == c[1]; is != must {
			t.Errorf("call %d: active %v, not %v", i, is, must)
		}
	})
	if n != len(wants) || !slices.Equal(told, wants) {
		t.Errorf("%d steps, left was told %d; not %d", n, told, wants)
	}
}

// P8.3: the other classes are left alone, and each is balanced by its own lengths.
func TestClassesApart(t *testing.T) {
	w := begun(t, 30, 30)
	rows := [classes][]api.Handle{}
	for c := range classes {
		rows[c] = w.entered(c, 5)
	}
	for c := range classes {
		w.hit(rows[c][0])
		w.balance(c, 99, 4)
		w.lengths(c, 1, 1, 3)
		for d := c + 1; d < classes; d++ {
			w.lengths(d, 5, 0, 0)
			w.active(rows[d])
		}
	}
}

// P8.3, P8.8: links bound the steps, and what is left over is done by the next call.
func TestLinks(t *testing.T) {
	for links := 1; links <= 8; links++ {
		w := begun(t, 34, 34)
		row := w.entered(0, 9)
		done := 0
		for done < 6 {
			n := w.lru.Balance(0, links, nil)
			if n != min(links, 6-done) {
				t.Fatalf("%d links behind %d steps: %d", links, done, n)
			}
			done += n
			w.walks(0, row...)
		}
		w.stands("Balance where nothing is due", func() { w.balance(0, links, 0) })
		w.lengths(0, 3, 0, 6)
	}
}

// P8.3: the most steps that there are: all items are active, and each moves twice.
func TestManySteps(t *testing.T) {
	for kind := api.Hot; kind <= api.Cold; kind++ {
		w, other := begun(t, 1, 1), begun(t, 1, 1)
		row := w.row(0, kind, 30)
		w.hit(row...)
		steps := 0
		for w.lru.Balance(0, 1, nil) == 1 {
			steps++
		}
		w.active(row)
		w.lengths(0, 0, 0, 30)
		if steps != 60 {
			t.Errorf("%d steps, not 60", steps)
		}
		other.hit(other.row(0, kind, 30)...)
		other.balance(0, math.MaxInt, 60)
		if !slices.Equal(w.image(), other.image()) {
			t.Error("one call and many don't end alike")
		}
	}
}
