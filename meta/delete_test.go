package meta_test

import (
	"fmt"
	"testing"
)

// P14.6, P14.10: with and without an item, C, I, T, c; the calls that are made.
func TestDelete(t *testing.T) {
	const item = "set b 0 0 1 / y; set a 5 10 1 / x; set c 0 0 1 / z; tick 2; " // a's token is 2
	for _, ahead := range []string{item, item + "mark a 2; ", item + "mark a 4; ", item + "mark a 6; ", item + "get a; "} {
		holds(t,
			row{ahead, "md a", "HD", "delete a"},
			row{ahead, "md a c k T9", "HD ka", "delete a"},
			row{ahead, "md a C2", "HD", "delete a"},
			row{ahead, "md a C0002 T-1 c", "HD", "delete a"},
			row{ahead, "md a I", "HD", "stamp a 2"},
			row{ahead, "md a I c", "HD c4", "stamp a 2"},
			row{ahead, "md a C2 I c k", "HD c4 ka", "stamp a 2"},
			row{ahead, "md a I T9 c", "HD c4", "stamp a 2 9"},
			row{ahead, "md a I T0", "HD", "stamp a 2 0"},
			row{ahead, "md a T-1 I c", "HD c4", "stamp a 2 -1"},
			row{ahead, "md a C2 T2592001 I", "HD", "stamp a 2 2592001"},
		)
		for _, n := range []string{"0", "1", "3", "4", "9", greatest} {
			for _, flags := range []string{"", " I", " I T9 c", " T9", " c"} {
				look := fmt.Sprintf("cas a 0 0 0 %s", n)
				holds(t, row{ahead, "md a C" + n + flags, "EX", look}, row{ahead, "md a q k O1 C" + n + flags, "EX ka O1", look})
			}
		}
	}
}

// P14.6: of a key that is missing, or dead.
func TestDeleteOfNone(t *testing.T) {
	const old = "set a 5 10 1 / x; set b 0 0 1 / y; "
	for _, ahead := range []string{"", old + "delete a", old + "tick 10", old + "flush_all", old + "mark a 6; tick 10"} {
		for _, flags := range []string{"", " I", " I c T9", " C1", " C1 I", " C7 I T9 c", " T9", " C0 c"} {
			holds(t, row{ahead, "md a" + flags, "NF", "delete a"}, row{ahead, "md a k O7" + flags, "NF ka O7", "delete a"}, row{ahead, "md a q" + flags, "-", "delete a"})
		}
	}
}

// P14.6: what is stale is told by its old value; T gives it the time that it may be told yet.
func TestDeleteLeavesStale(t *testing.T) {
	s := opened(t)
	runs(t, s, "ms a 1 T30 F9 / x", "HD", "mg a", "HD", "md a I T5 c", "HD c2", "get a", "a=x END", "mg a v f c t h l", "VA 1 f9 c2 t5 h1 l0 X W: x", "mg a t", "HD t5 X Z")
	runs(t, s, "md a I", "HD", "mg a t c", "HD t5 c3 X W", "tick 5", "ok", "mg a", "EN", "md a I", "NF")
	runs(t, s, "ms a 1 T30 / x", "HD", "md a I T-1", "HD", "mg a", "EN")
	runs(t, s, "ms a 1 T30 / x", "HD", "md a I T0", "HD", "mg a t", "HD t-1 X W")
}
