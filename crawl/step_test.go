package crawl_test

import (
	"math"
	"slices"
	"testing"

	"granary/api"
	"granary/crawl"
	"granary/item"
)

// P9.3: a most below 1 does nothing at all, wherever the round is and whatever is due.
func TestMostBelowOne(t *testing.T) {
	w := begun(t, 1)
	for _, h := range w.row(api.Cold, "abc") {
		w.expiry[h] = 1
		w.wheel.Set(h, 1)
	}
	none := func() {
		t.Helper()
		w.stands("a Step of nothing", func() {
			for _, most := range []int{0, -1, -api.MaxPace, math.MinInt} {
				w.step(1, most, 0, 0, "", "")
			}
		})
	}
	none()
	w.place(0, 0)
	w.expiry = map[api.Handle]int{}
	w.looks(4, "abca")
	none()
	w.place(0, 0)
	w.looks(5, "abcbc")
	none()
	w.place(0, 0)
}

// many are more items than a Step may look at, in a list or in the wheel.
const many = api.MaxPace + 2

// P9.3: a most above MaxPace counts as MaxPace, in the round.
func TestMaxPaceInRound(t *testing.T) {
	w := over(t, api.Config{PageSize: 1 << 20, Pages: 65, Factor: 400, MinChunk: 64, ItemLimit: 64}, 1)
	for range many {
		h, e := w.set.Take(0)
		if e != api.OK {
			t.Fatal("class.Take:", e)
		}
		w.is("item.Lay", item.Lay(w.set, h, api.Item{Key: []byte("k"), State: api.None}), api.OK)
		w.is("queue.Last", w.queue.Last(h, api.Cold), api.OK)
	}
	asked := 0
	c, e := crawl.New(w.queue, w.wheel, 1, func(api.Handle) bool { asked++; return false }, w.take)
	w.is("New", e, api.OK)
	for _, x := range []struct{ most, looked, done int }{
		{api.MaxPace - 1, api.MaxPace - 1, 0},
		{9, 3, 1},
		{api.MaxPace, api.MaxPace, 1},
		{9, 2, 2},
		{api.MaxPace + 1, api.MaxPace, 2},
		{9, 2, 3},
		{math.MaxInt, api.MaxPace, 3},
		{9, 2, 4},
	} {
		asked = 0
		looked, taken := c.Step(1, x.most)
		if _, done := c.Place(); looked != x.looked || taken != 0 || asked != looked || done != x.done {
			t.Errorf("Step(1, %d): %d %d, asked %d, %d rounds", x.most, looked, taken, asked, done)
		}
	}
}

// P9.3: and among what is due: the round does not begin, though the wheel has entries that were not looked at.
func TestMaxPaceInWheel(t *testing.T) {
	w := begun(t, 1)
	w.row(api.Cold, "a")
	for h := range api.Handle(many) {
		w.wheel.Set(h+1000000, 1)
	}
	last := api.Handle(0)
	c, e := crawl.New(w.queue, w.wheel, 1, func(h api.Handle) bool { last = h; return false }, w.take)
	w.is("New", e, api.OK)
	if looked, taken := c.Step(1, api.MaxPace+1); looked != api.MaxPace || taken != 0 || last != 1000000+api.MaxPace-1 {
		t.Errorf("Step of one due more: %d %d, last of %d", looked, taken, last)
	}
	for h := range api.Handle(3) {
		w.wheel.Take(h + 1000000)
	}
	if looked, _ := c.Step(1, math.MaxInt); looked != api.MaxPace || last == 1000000+many-1 {
		t.Errorf("Step of one due less: %d, last of %d", looked, last)
	}
}

// P9.2: each class from 0 on, in each cold, warm, hot, in each from the tail to the head.
func TestOrder(t *testing.T) {
	for most := 1; most <= 19; most++ {
		w := begun(t, 3)
		must := ""
		for c, names := range []string{"abcdef", "ghijkl", "mnopqr"} {
			for i, x := range names {
				w.pushed(string(x), c, api.Cold-i/2, 0)
			}
			must += names
		}
		for round := range 3 {
			for left := must; ; {
				part := left[:min(most, len(left))]
				w.looks(most, part)
				left = left[len(part):]
				if len(part) < most {
					break
				}
				w.place((len(must)-len(left)-1)/6, round)
			}
			w.place(0, round+1)
		}
	}
}

// P9.3: what is due comes first, in the wheel's order, whatever its place in the lists is, and is counted against most.
func TestDueFirst(t *testing.T) {
	must := "ecgab" // by expiry, those of one expiry as they were set
	for most := 1; most <= 12; most++ {
		w := begun(t, 3)
		at := map[string]api.Handle{}
		for i, x := range "abcdefg" {
			at[string(x)] = w.pushed(string(x), i%3, api.Hot+i%2, 0)
		}
		w.wheel.Set(at["d"], 6) // not due
		w.wheel.Set(at["a"], 5)
		w.wheel.Set(at["g"], 4)
		w.wheel.Set(at["b"], 5)
		w.wheel.Set(at["c"], 2)
		w.wheel.Set(at["e"], 1)
		w.stands("a Step that finds nobody dead", func() {
			asked := must + lists(w)
			asked = asked[:min(most, len(asked))]
			w.step(5, most, len(asked), 0, asked, "")
		})
	}
}

// lists are the names of all items in the round's order.
func lists(w *world) (all string) {
	for c := range classes {
		for kind := api.Cold; kind >= api.Hot; kind-- {
			row := slices.Collect(w.queue.All(c, kind))
			slices.Reverse(row)
			all += w.names(row)
		}
	}
	return all
}

// P9.3: an item that is due and not dead is looked at by the wheel's part and by the round's, and stays due.
func TestLookedAtTwice(t *testing.T) {
	w := begun(t, 1)
	row := w.row(api.Cold, "ab")
	w.wheel.Set(row[0], 1)
	w.looks(9, "aab")
	w.looks(9, "aab")
	if w.wheel.Len() != 1 {
		t.Error("the wheel has lost an entry")
	}
}

// P9.3: the wheel is asked as the Step begins: what becomes due by a take waits for the next one.
func TestDueAsTheStepBegins(t *testing.T) {
	w := begun(t, 1)
	row := w.row(api.Hot, "ab")
	w.expiry[row[0]] = 1
	w.wheel.Set(row[0], 1)
	late := func(h api.Handle) { w.take(h); w.wheel.Set(row[1], 1) }
	c, e := crawl.New(w.queue, w.wheel, 1, w.dead, late)
	w.is("New", e, api.OK)
	w.crawl = c
	w.step(1, 2, 2, 1, "ab", "a")
	w.step(1, 1, 1, 0, "b", "")
	w.place(0, 0)
	w.step(1, 1, 1, 0, "b", "")
}

// P9.3: dead is asked just once of each that is looked at; take is called just with those of which it says yes.
func TestWhoIsTaken(t *testing.T) {
	names := "abcdefgh"
	for dead := range 1 << len(names) {
		w := begun(t, 1)
		gone := ""
		for i, x := range names {
			w.pushed(string(x), 0, api.Cold-i/3, dead>>i&1)
			if dead>>i&1 == 1 {
				gone += string(x)
			}
		}
		w.step(1, 99, len(names), len(gone), names, gone)
		w.place(0, 1)
		if n := w.queue.Len(0, api.Hot) + w.queue.Len(0, api.Warm) + w.queue.Len(0, api.Cold); n != len(names)-len(gone) {
			t.Errorf("%d items are left", n)
		}
	}
}

// P9.3: of handles in the wheel that stand in no list, and of 0, dead is asked too.
func TestDueInNoList(t *testing.T) {
	w := begun(t, 1)
	w.row(api.Cold, "a")
	for i, h := range []api.Handle{0, math.MaxUint64, 77} {
		w.wheel.Set(h, 1)
		w.name[h] = string(rune('x' + i))
	}
	w.looks(9, "xyza")
	w.place(0, 1)
}

// P9.3: now is the wheel's now, at the clock's edges and beyond.
func TestNow(t *testing.T) {
	for _, expiry := range []int{1, 2, api.MaxTick, api.MaxTick + 1, math.MaxInt} {
		w := begun(t, 1)
		h := w.laid("a", 0, 0) // it stands in no list: only the wheel names it
		w.wheel.Set(h, expiry)
		w.step(expiry-1, 5, 0, 0, "", "")
		w.step(math.MinInt, 5, 0, 0, "", "")
		w.step(expiry, 5, 1, 0, "a", "")
		w.step(math.MaxInt, 5, 1, 0, "a", "")
	}
}

// P9.8: what is due and dead goes with the first Step that has room for all that is due.
func TestDueIsTaken(t *testing.T) {
	for n := 1; n <= 12; n++ {
		w := begun(t, 3)
		w.row(api.Cold, "xyz")
		w.looks(1, "x")
		dead := 0
		for i := range n {
			h := w.pushed(string(rune('a'+i)), i%3, api.Hot+i%2, 5)
			w.wheel.Set(h, 5)
			if i%4 == 3 {
				w.expiry[h] = 9
			} else {
				dead++
			}
		}
		w.now = 5
		if looked, taken := w.crawl.Step(5, n); looked != n || taken != dead {
			t.Errorf("%d due: %d %d", n, looked, taken)
		}
		if w.wheel.Len() != n-dead {
			t.Errorf("%d due: %d are in the wheel", n, w.wheel.Len())
		}
	}
}

// P9.7: every item that was dead all the while is taken by the round, each other one looked at once.
func TestWholeRound(t *testing.T) {
	for most := 1; most <= 50; most += 3 {
		w := begun(t, 3)
		dead := 0
		for i := range 60 {
			expiry := 0
			if i*i%7 == 1 {
				expiry = 3
				dead++
			}
			w.pushed(string(rune('A'+i)), i%3, api.Hot+i/3%3, expiry)
		}
		round(w, most)
		all := lists(w)
		w.now, w.asked = 3, nil
		round(w, most)
		if seen := w.names(w.asked); len(w.taken) != dead || seen != all {
			t.Errorf("most %d: %d of %d are taken; looked at %q, not %q", most, len(w.taken), dead, seen, all)
		}
	}
}

// round makes Steps till a round is over.
func round(w *world, most int) {
	_, was := w.crawl.Place()
	for _, done := w.crawl.Place(); done == was; _, done = w.crawl.Place() {
		w.crawl.Step(w.now, most)
	}
}

// P9.6: a Step changes nothing where nobody is dead, whatever is due.
func TestStepChangesNothing(t *testing.T) {
	w := begun(t, 3)
	for i := range 30 {
		h := w.pushed(string(rune('a'+i)), i%3, api.Hot+i/3%3, 0)
		w.wheel.Set(h, 1+i%5)
	}
	w.stands("Step", func() {
		for i := range 40 {
			w.crawl.Step(i%7, 1+i%9)
		}
	})
}
