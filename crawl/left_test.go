package crawl_test

import (
	"math"
	"testing"

	"granary/api"
)

// P9.4: of the next item, with left above 1: the round goes by it, and looks at one item less.
func TestLeftOfNext(t *testing.T) {
	w := begun(t, 1)
	row := w.row(api.Cold, "abcd")
	w.looks(1, "a")
	w.stands("Left", func() { w.crawl.Left(row[1]) })
	w.place(0, 0)
	w.looks(9, "cd")
	w.place(0, 1)
}

// P9.4: told twice of one item, only the first is of the next one.
func TestLeftTwice(t *testing.T) {
	w := begun(t, 1)
	row := w.row(api.Cold, "abcd")
	w.looks(1, "a")
	w.crawl.Left(row[1])
	w.crawl.Left(row[1])
	w.looks(1, "c")
	w.crawl.Left(row[3])
	w.looks(9, "")
	w.place(0, 1)
}

// P9.4: with left 1 there is no next one behind it, though the list has an item ahead; the round goes on with the list behind.
func TestLeftOfLast(t *testing.T) {
	w := begun(t, 1)
	row := w.row(api.Cold, "ab")
	w.row(api.Warm, "w")
	w.looks(1, "a")
	w.row(api.Cold, "z") // ahead of b, but not of this round
	w.crawl.Left(row[1])
	w.looks(1, "w")
	w.looks(1, "")
	w.place(0, 1)
}

// P9.4: the head is next, and items that stood ahead of it have left without having been next: no next one, whatever is left.
func TestLeftOfHead(t *testing.T) {
	w := begun(t, 2)
	row := w.row(api.Cold, "abcd")
	w.pushed("x", 1, api.Cold, 0)
	w.looks(1, "a") // left: 3
	w.drop(row[2])
	w.drop(row[3])
	w.crawl.Left(row[1])
	w.place(0, 0)
	w.looks(1, "x")
	w.place(1, 0)
}

// P9.3: the same where the round itself goes by the head.
func TestHeadWithMoreLeft(t *testing.T) {
	w := begun(t, 1)
	row := w.row(api.Cold, "abcd")
	w.row(api.Hot, "h")
	w.looks(1, "a")
	w.drop(row[2])
	w.drop(row[3])
	w.looks(1, "b")
	w.row(api.Cold, "z") // two were left, but b was the head when it was passed
	w.looks(9, "h")
	w.looks(9, "abzh")
}

// P9.4: of another item than the next one: nothing.
func TestLeftOfOthers(t *testing.T) {
	for i := range 5 {
		w := begun(t, 2)
		row := w.row(api.Cold, "abcde")
		other := []api.Handle{w.pushed("v", 0, api.Hot, 0), w.pushed("w", 1, api.Cold, 0), w.laid("n", 0, 0)}
		w.looks(i, "abcde"[:i])
		for j, h := range append(row, other...) {
			if j != i {
				w.crawl.Left(h)
				w.crawl.Left(h)
			}
		}
		w.looks(9, "abcde"[i:]+"vw")
		w.place(0, 1)
	}
}

// P9.4: of handles that nobody knows, 0 among them, wherever the round is: where it has a next item and where it has none.
func TestLeftOfNobody(t *testing.T) {
	strange := func(w *world) {
		t.Helper()
		h := w.laid("g", 0, 0)
		w.is("class.Give", w.set.Give(h), api.OK)
		w.stands("Left of nobody", func() {
			for _, h := range []api.Handle{0, 2, 77, h, 1 << 32, math.MaxUint64} {
				w.crawl.Left(h)
				w.crawl.Left(h)
			}
		})
	}
	w := begun(t, 1)
	w.row(api.Cold, "ab")
	w.row(api.Warm, "c")
	strange(w)
	w.looks(1, "a")
	strange(w)
	w.looks(1, "b") // no next one
	strange(w)
	w.looks(1, "c")
	strange(w)
	w.looks(1, "")
	strange(w)
	w.place(0, 1)
	w.looks(9, "abc")
}

// P9.4: in a round that has not begun there is no next item: behind New, behind a round's end, behind Again.
func TestLeftInNoRound(t *testing.T) {
	w := begun(t, 1)
	row := w.row(api.Cold, "abc")
	all := func() {
		for _, h := range row {
			w.crawl.Left(h)
		}
	}
	all()
	w.looks(9, "abc")
	all()
	w.looks(2, "ab")
	w.crawl.Again()
	all()
	w.looks(9, "abc")
	w.place(0, 2)
}

// P9.4: next goes along by Left alone as it does by Step.
func TestLeftAlong(t *testing.T) {
	w := begun(t, 1)
	row := w.row(api.Cold, "abcdef")
	w.row(api.Hot, "h")
	w.looks(1, "a")
	for _, h := range row[1:4] {
		w.drop(h)
	}
	w.looks(1, "e")
	w.crawl.Left(row[4])
	w.crawl.Left(row[5])
	w.looks(9, "h")
	w.place(0, 1)
}

// P9.3, P9.4: an item that is due and is next is taken: the round goes by it.
func TestDueIsNext(t *testing.T) {
	w := begun(t, 1)
	row := w.row(api.Cold, "abcd")
	w.looks(1, "a")
	w.expiry[row[1]] = 2
	w.wheel.Set(row[1], 2)
	w.step(2, 2, 2, 1, "bc", "b")
	w.step(2, 9, 1, 0, "d", "")
}

// P9.2: items that come between Steps: at the head they are looked at only where others have left, at the tail never.
func TestLaidBetween(t *testing.T) {
	w := begun(t, 1)
	row := w.row(api.Cold, "abc")
	w.looks(1, "a") // left: 2
	tail := w.laid("t", 0, 0)
	w.is("queue.Last", w.queue.Last(tail, api.Cold), api.OK)
	w.row(api.Cold, "yz")
	w.drop(row[2])
	w.looks(9, "by") // c is gone, and one was left
	w.looks(9, "tabyz")
}

// P9.2: what comes into a list to which the round has not come is looked at; what comes into one that is behind it is not.
func TestOtherListsBetween(t *testing.T) {
	w := begun(t, 2)
	row := w.row(api.Warm, "abc")
	w.looks(1, "a")
	w.shift(row[1], api.Hot)
	w.shift(row[0], api.Cold)
	w.pushed("x", 1, api.Cold, 0)
	w.looks(9, "cbx")
	w.place(0, 1)
	w.looks(9, "acbx")
}

// P9.4: the next item goes to the head of its list, or of another one.
func TestMovedBetween(t *testing.T) {
	for kind := api.Hot; kind <= api.Cold; kind++ {
		w := begun(t, 1)
		row := w.row(api.Warm, "abcd")
		w.looks(2, "ab")
		w.shift(row[2], kind)
		must := "d" // left was 2, and is 1
		if kind == api.Hot {
			must = "dc"
		}
		w.looks(9, must)
	}
}

// P9.5: Again in the middle of a round, at its beginning, and behind its end; rounds that it broke off are not counted.
func TestAgain(t *testing.T) {
	w := begun(t, 3)
	for c, names := range []string{"abc", "def", "ghi"} {
		for i, x := range names {
			w.pushed(string(x), c, api.Cold-i, 0)
		}
	}
	all := "abcdefghi"
	w.crawl.Again()
	w.place(0, 0)
	for most := 1; most <= len(all); most++ {
		w.looks(most, all[:most])
		w.place((most-1)/3, most-1)
		w.stands("Again", w.crawl.Again)
		w.place(0, most-1)
		w.crawl.Again()
		w.looks(99, all)
		w.place(0, most)
		w.crawl.Again()
		w.place(0, most)
	}
}

// P9.5: Again comes to the first list anew: what was pushed there since is looked at, left and next are forgotten.
func TestAgainForgets(t *testing.T) {
	w := begun(t, 1)
	row := w.row(api.Cold, "abc")
	w.looks(1, "a")
	w.crawl.Again()
	w.drop(row[1])
	w.row(api.Cold, "yz")
	w.looks(9, "acyz")
	w.place(0, 1)
}

// P9.5: Place tells the list at which the round is, also where that has no next item; and it changes nothing.
func TestPlaceBehindEach(t *testing.T) {
	w := begun(t, 3)
	a := w.pushed("a", 1, api.Hot, 1)
	w.pushed("b", 2, api.Cold, 0)
	w.place(0, 0)
	w.step(1, 1, 1, 1, "a", "a")
	w.place(1, 0)
	w.crawl.Left(a)
	w.place(1, 0)
	w.looks(1, "b")
	w.stands("Place", func() { w.place(2, 0) })
	w.looks(1, "")
	w.place(0, 1)
	w.looks(1, "b")
	w.place(2, 1)
	w.crawl.Again()
	w.place(0, 1)
}

// P9.6: no call but Step calls dead or take, or changes a list, the wheel or an item.
func TestOthersCallNothing(t *testing.T) {
	w := begun(t, 3)
	row := w.row(api.Cold, "abcd")
	w.looks(1, "a")
	for _, h := range row {
		w.expiry[h] = 1
		w.wheel.Set(h, 1)
	}
	w.asked, w.taken = nil, nil
	w.stands("what is no Step", func() {
		w.crawl.Left(row[1])
		w.crawl.Left(row[0])
		w.crawl.Left(99)
		w.crawl.Place()
		w.crawl.Again()
		w.crawl.Place()
	})
	if len(w.asked)+len(w.taken) > 0 {
		t.Error("a call that is no Step has called dead or take")
	}
}
