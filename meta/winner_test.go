package meta_test

import (
	"fmt"
	"testing"
)

// P14.11, W10: of many that see a stale item just one wins, until the next mutation.
func TestOneWinner(t *testing.T) {
	s := after(t, opened(t), "set a 0 60 1 / x; set b 0 60 1 / y; get a")
	for range 4 {
		runs(t, s, "md a I", "HD", "mg a", "HD X W")
		for i := range 20 {
			runs(t, s, "mg a", "HD X Z", "mg a R99", "HD X Z", "mg a N9 v", "VA 1 X Z: x", fmt.Sprint("mg a T", 60+i), "HD X Z", "mg b", "HD")
		}
	}
}

// W10: the same of one that is short, and of one that N has made.
func TestOneWinnerOfOthers(t *testing.T) {
	s := after(t, opened(t), "set a 0 10 1 / x")
	runs(t, s, "mg a R10", "HD", "mg a R11", "HD W", "mg a R11", "HD Z", "mg a", "HD Z", "tick 1", "ok", "mg a R11", "HD Z", "mg a T50 R9", "HD Z", "mg a R99", "HD Z")
	runs(t, s, "mg b N30", "HD W", "mg b N30", "HD Z", "mg b R99", "HD Z", "mg b v", "VA 0 Z: ")
	// With its time, its stretch is over.
	runs(t, s, "tick 30", "ok", "mg b N30", "HD W", "mg b N30", "HD Z", "flush_all", "OK", "mg b", "EN", "mg b N30", "HD W", "delete b", "DELETED", "mg b N30", "HD W", "mg b", "HD Z")
}

// marked is a store with an item a (token 2) of these marks, which is a number.
func marked(marks int) string {
	return fmt.Sprintf("set b 0 0 1 / y; set a 5 60 1 / 7; get a; mark a %d", marks)
}

// P14.11: what clears no mark: reads, touches, the look, what is refused, what stores nothing, and what other keys do.
func TestMarksStay(t *testing.T) {
	for marks, must := range map[int]string{0: "", 2: "stale", 4: "won", 6: "stale won"} {
		for _, call := range []string{
			"get a", "gets a", "gat 9 a", "gats 9 a", "touch a 9", "get a a", "touch a 0",
			"add a 0 0 1 / z", "cas a 0 0 1 1 / z", "append a 0 0 197 / " + long(197), "tick 3", "verbosity 1", "flush_all 50",
			"md a C1", "md a C3 I", "ma a C1", "ma a C9 T5", "ma a C9 N0", "ms a 1 ME / z", "ms a 1 ME C2 / z", "ms a 1 C9 / z", "ms a 1 C9 I / z", "ms a 1 C1 / z", "ms a 1 MA C9 / z", "ms a 1 MP C1 / z", "ms a 0 MA Large",
			"mn", "mg b", "mg c N0", "ms b 1 / z", "md b I", "md b", "ma b", "ma c N0",
		} {
			s := after(t, opened(t), marked(marks))
			calls(t, s, call)
			if got := marksOf(t, s, "a"); got != must {
				t.Errorf("behind %.60q a is %q, not %q", call, got, must)
			}
		}
	}
}

// P14.11: every mutation clears both marks, but for those that make an item stale.
func TestMarksGo(t *testing.T) {
	for _, marks := range []int{0, 2, 4, 6} {
		for call, must := range map[string]string{
			"set a 0 0 1 / z": "", "replace a 0 0 1 / z": "", "append a 0 0 1 / z": "", "prepend a 0 0 1 / z": "", "cas a 0 0 1 2 / z": "",
			"incr a 1": "", "decr a 1": "", "incr a 1000000000000": "", // the last one takes a new chunk
			"ms a 1 / z": "", "ms a 1 MR / z": "", "ms a 1 MA / z": "", "ms a 1 MP / z": "", "ms a 1 C2 / z": "", "ms a 1 C2 I / z": "", "ms a 1 MA C2 I / z": "", "ms a 1 MR C2 / z": "", "ms a 1 I / z": "",
			"ma a": "", "ma a MD": "", "ma a T9": "", "ma a C2 v": "", "ma a D1000000000000": "",
			"md a I": "stale", "md a I C2": "stale", "md a I T9": "stale",
			"ms a 1 C1 I / z": "stale", "ms a 1 C0 I MR / z": "stale", "ms a 1 MA C1 I / z": "stale", "ms a 1 MP C1 I / z": "stale",
			"md a": "none", "delete a": "none", "flush_all": "none", "ms a 0 Large": "none", "mg a T-1": "none", "md a I T-1": "none",
		} {
			s := after(t, opened(t), marked(marks))
			calls(t, s, call)
			if got := marksOf(t, s, "a"); got != must {
				t.Errorf("behind %.60q a, which had the marks %d, is %q, not %q", call, marks, got, must)
			}
		}
	}
	// A delete and a set behind it: nothing is left of the marks.
	s := after(t, opened(t), marked(6))
	runs(t, s, "md a", "HD", "ms a 1 / z", "HD", "mg a", "HD")
}

// P14.11: which marks a MetaGet leaves.
func TestMarksOfGets(t *testing.T) {
	for _, x := range []struct {
		marks int
		call  string
		must  string
	}{
		{0, "mg a", ""}, {0, "mg a R60", ""}, {0, "mg a R61", "won"}, {0, "mg a T9 R10", "won"}, {0, "mg a T0 R10", ""}, {0, "mg a N9", ""},
		{2, "mg a", "stale won"}, {2, "mg a q", "stale won"}, {2, "mg a R99", "stale won"}, {2, "mg a T9", "stale won"},
		{4, "mg a", "won"}, {4, "mg a R99", "won"},
		{6, "mg a", "stale won"}, {6, "mg a R99 v", "stale won"},
	} {
		s := after(t, opened(t), marked(x.marks))
		calls(t, s, x.call)
		if got := marksOf(t, s, "a"); got != x.must {
			t.Errorf("behind %q a, which had the marks %d, is %q, not %q", x.call, x.marks, got, x.must)
		}
	}
	s := opened(t)
	runs(t, s, "mg a N9", "HD W")
	if got := marksOf(t, s, "a"); got != "won" {
		t.Errorf("behind mg a N9 it is %q", got)
	}
}

// P14.11: what goes on with the next mutation has a winner of its own, however the item became stale.
func TestStretches(t *testing.T) {
	s := opened(t)
	runs(t, s,
		"mg a N60 c", "HD c1 W", "mg a c", "HD c1 Z",
		"ms a 1 T60 C1 c / x", "HD c2", "mg a", "HD", "mg a R61", "HD W", "mg a R61", "HD Z",
		"ms a 1 T60 C1 I c / y", "HD c3", "mg a v", "VA 1 X W: y", "mg a v", "VA 1 X Z: y",
		"ms a 1 MA C2 I c / z", "HD c4", "mg a v", "VA 2 X W: yz", "mg a", "HD X Z",
		"md a I c", "HD c5", "md a I c", "HD c6", "mg a", "HD X W", "mg a", "HD X Z",
		"ms a 1 MP c / 1", "HD c7", "mg a v", "VA 3: 1yz",
		"md a I", "HD", "ms a 1 T60 C7 / n", "EX", "mg a", "HD X W", "ms a 2 T60 C8 / 99", "HD", "mg a", "HD",
		"md a I", "HD", "mg a", "HD X W", "ma a v", "VA 3: 100", "mg a", "HD", "ma a C1", "EX", "mg a", "HD")
}

// A picture keeps the marks; so the winner is one over a warm start too.
func TestWinnerBehindRestore(t *testing.T) {
	s := after(t, opened(t), "set a 0 60 1 / x; md a I; set b 0 60 1 / y; md b I; mg b; set c 0 60 1 / z; mg c R99")
	r := restored(t, s.Config(), s.State(), s.Rows())
	runs(t, r, "mg a", "HD X W", "mg a", "HD X Z", "mg b", "HD X Z", "mg c R99", "HD Z")
}
