package crawl_test

import (
	"testing"

	"granary/api"
)

// P9.2, P9.3: a round an item a Step; its end is told by a Step of its own.
func TestRunOneByOne(t *testing.T) {
	w := begun(t, 1)
	w.row(api.Cold, "ab")
	w.looks(1, "a")
	w.looks(1, "b")
	w.place(0, 0)
	w.looks(1, "")
	w.place(0, 1)
}

// P9.3: the Step ends where the round ends; the next one begins a new round.
func TestRunRoundByRound(t *testing.T) {
	w := begun(t, 1)
	w.row(api.Cold, "ab")
	w.looks(9, "ab")
	w.place(0, 1)
	w.looks(9, "ab")
	w.place(0, 2)
}

// P9.3, P9.5: a round through empty lists is over too.
func TestRunOfNothing(t *testing.T) {
	w := begun(t, 1)
	w.looks(5, "")
	w.place(0, 1)
}

// P9.3: the wheel names what is due, ahead of the round.
func TestRunExpires(t *testing.T) {
	w := begun(t, 1)
	a := w.pushed("a", 0, api.Hot, 5)
	w.wheel.Set(a, 5)
	w.step(4, 4, 1, 0, "a", "")
	w.place(0, 1)
	w.step(5, 4, 1, 1, "a", "a")
	w.place(0, 2)
	if w.queue.Len(0, api.Hot) != 0 || w.wheel.Len() != 0 {
		t.Error("the item is still there")
	}
}

// P9.3: an item that was touched is not due.
func TestRunTouched(t *testing.T) {
	w := begun(t, 1)
	a := w.pushed("a", 0, api.Hot, 5)
	w.wheel.Set(a, 5)
	w.step(4, 4, 1, 0, "a", "")
	w.expiry[a] = 9
	w.wheel.Set(a, 9)
	w.step(5, 4, 1, 0, "a", "")
	w.step(9, 4, 1, 1, "a", "a")
}

// P9.3: dead ones that the wheel does not know are found by the round.
func TestRunTenDead(t *testing.T) {
	w := begun(t, 1)
	for _, x := range "abcdefghij" {
		w.pushed(string(x), 0, api.Cold, 1)
	}
	w.step(1, 4, 4, 4, "abcd", "abcd")
	w.step(1, 4, 4, 4, "efgh", "efgh")
	w.step(1, 4, 2, 2, "ij", "ij")
	w.place(0, 1)
}

// P9.3: a Step of nothing does nothing.
func TestRunMostBelowOne(t *testing.T) {
	w := begun(t, 1)
	w.row(api.Cold, "ab")
	w.looks(0, "")
	w.looks(-1, "")
	w.place(0, 0)
}

// P9.4: the runs of Left.
func TestRunLeft(t *testing.T) {
	w := begun(t, 1)
	row := w.row(api.Cold, "abc")
	w.looks(1, "a")
	w.drop(row[1])
	w.looks(1, "c")

	w = begun(t, 1)
	row = w.row(api.Cold, "abc")
	w.looks(1, "a")
	w.shift(row[1], api.Cold)
	w.looks(9, "c")
	w.place(0, 1)

	w = begun(t, 1)
	row = w.row(api.Cold, "ab")
	w.looks(1, "a")
	w.drop(row[0])
	w.looks(9, "b")
}

// P9.2: what is pushed when the round has come to its list is not looked at by it.
func TestRunPushed(t *testing.T) {
	w := begun(t, 1)
	w.row(api.Cold, "ab")
	w.looks(1, "a")
	w.row(api.Cold, "z")
	w.looks(9, "b")
	w.looks(9, "abz")
}

// P9.5: the run of Again.
func TestRunAgain(t *testing.T) {
	w := begun(t, 1)
	w.row(api.Cold, "ab")
	w.looks(1, "a")
	w.crawl.Again()
	w.looks(1, "a")
}

// P9.5: the run of Place.
func TestRunPlace(t *testing.T) {
	w := begun(t, 3)
	for c, name := range []string{"a", "b", "c"} {
		w.pushed(name, c, api.Warm, 0)
	}
	w.looks(2, "ab")
	w.place(1, 0)
}

// P9.3: where what is due takes the whole Step, the round does not begin.
func TestRunDueTakesAll(t *testing.T) {
	w := begun(t, 1)
	for _, h := range w.row(api.Cold, "abcde") {
		w.wheel.Set(h, 1)
	}
	w.looks(3, "abc")
	w.place(0, 0)
	w.shift(w.asked[0], api.Cold)
	w.looks(6, "abcdeb")
}

// Example 1: three dead among eight.
func TestExampleEight(t *testing.T) {
	w := begun(t, 2)
	for i, x := range "abcdefgh" {
		w.pushed(string(x), i%2, 1+i%3, i%3%2)
	}
	// Cold: c, f; warm: b, e, h, all of them dead; hot: a, d, g. Of two classes each.
	w.step(1, 4, 4, 1, "ceag", "e")
	w.step(1, 4, 4, 2, "fbhd", "bh")
	w.step(1, 4, 0, 0, "", "")
	w.place(0, 1)
}

// Examples 2 and 3: a handle that nobody knows, and Place behind New.
func TestExamples(t *testing.T) {
	w := begun(t, 1)
	w.place(0, 0)
	w.row(api.Cold, "ab")
	w.crawl.Left(77)
	w.place(0, 0)
	w.looks(1, "a")
	w.crawl.Left(77)
	w.looks(9, "b")
}
