package meta_test

import (
	"fmt"
	"strings"
	"testing"

	"granary/api"
)

// P14.7, P14.10: both modes, deltas, with v and without it; and the calls that are made.
func TestArith(t *testing.T) {
	const item = "set b 0 0 1 / y; set n 5 10 2 / 50; tick 2; " // n's token is 2
	for _, ahead := range []string{item, item + "mark n 2; ", item + "mark n 4; ", item + "mark n 6; ", item + "get n; "} {
		holds(t,
			row{ahead, "ma n", "HD", "incr n 1"},
			row{ahead, "ma n v", "VA 2: 51", "incr n 1"},
			row{ahead, "ma n v MI", "VA 2: 51", "incr n 1"},
			row{ahead, "ma n v Mi D7", "VA 2: 57", "incr n 7"},
			row{ahead, "ma n v MD", "VA 2: 49", "decr n 1"},
			row{ahead, "ma n v Md D7", "VA 2: 43", "decr n 7"},
			row{ahead, "ma n v D0 c", "VA 2 c3: 50", "incr n 0"},
			row{ahead, "ma n v D0 MD", "VA 2: 50", "decr n 0"},
			row{ahead, "ma n v D" + greatest, "VA 2: 49", "incr n " + greatest},
			row{ahead, "ma n v MD D" + greatest, "VA 1: 0", "decr n " + greatest},
			row{ahead, "ma n v D18446744073709551565", "VA 20: " + greatest, "incr n 18446744073709551565"},
			row{ahead, "ma n t c", "HD t8 c3", "incr n 1"},
			row{ahead, "ma n v t N0 J7", "VA 2 t8: 51", "incr n 1"},
			row{ahead, "ma n C2 v k", "VA 2 kn: 51", "incr n 1"},
			row{ahead, "ma n C02 MD", "HD", "decr n 1"},
			row{ahead, "ma n q", "-", "incr n 1"},
		)
		for _, n := range []string{"0", "1", "3", greatest} {
			for _, flags := range []string{"", " v", " N0 J5", " T9 t c", " MD D2"} {
				holds(t, row{ahead, "ma n C" + n + flags, "EX", "cas n 0 0 0 " + n}, row{ahead, "ma n q k O1 C" + n + flags, "EX kn O1", "cas n 0 0 0 " + n})
			}
		}
	}
}

// P14.7: with T the item is touched behind the counting.
func TestArithTouch(t *testing.T) {
	const item = "set n 5 10 2 / 50; tick 2; "
	holds(t,
		row{item, "ma n T5 t", "HD t5", "incr n 1; touch n 5"},
		row{item, "ma n T0 t v c", "VA 2 t-1 c2: 51", "incr n 1; touch n 0"},
		row{item, "ma n T-1 t v", "VA 2 t0: 51", "incr n 1; touch n -1"},
		row{item, "ma n T2592000 t", "HD t2592000", "incr n 1; touch n 2592000"},
		row{item, "ma n T2592001 t", "HD t2591998", "incr n 1; touch n 2592001"},
		row{item, "ma n T9223372036854775807 t MD", "HD t9223372036854775804", "decr n 1; touch n 9223372036854775807"},
		row{item, "ma n T5 N30 J7 v t", "VA 2 t5: 51", "incr n 1; touch n 5"},
		row{item, "ma n T5 q", "-", "incr n 1; touch n 5"},
		row{"tick 2592100; " + item, "ma n T2592001 t", "HD t-102", "incr n 1; touch n 2592001"},
		row{"set n 0 0 1 / 5", "ma n t", "HD t-1", "incr n 1"},
	)
	for _, p := range []api.Pace{usual(), slow()} {
		runs(t, after(t, paced(t, small(), p), item), "ma n T-1 v", "VA 2: 51", "get n", "END", "ma n", "NF")
	}
}

// P14.7, 3: what N makes of a key that is missing, or dead.
func TestArithBegins(t *testing.T) {
	const old = "set n 5 10 2 / 50; set b 0 0 1 / y; "
	for _, ahead := range []string{"", old + "delete n", old + "tick 10", old + "flush_all", old + "mark n 6; tick 11"} {
		holds(t,
			row{ahead, "ma n", "NF", "incr n 1"},
			row{ahead, "ma n v T9 J5 C1 k", "NF kn", "incr n 1"},
			row{ahead, "ma n MD D5", "NF", "decr n 5"},
			row{ahead, "ma n q", "-", "incr n 1"},
			row{ahead, "ma n N0", "HD", "incr n 1; set n 0 0 1 / 0"},
			row{ahead, "ma n N0 v t", "VA 1 t-1: 0", "incr n 1; set n 0 0 1 / 0"},
			row{ahead, "ma n N9 v t J5", "VA 1 t9: 5", "incr n 1; set n 0 9 1 / 5"},
			row{ahead, "ma n N9 D7 MD v J5", "VA 1: 5", "decr n 7; set n 0 9 1 / 5"},
			row{ahead, "ma n N9 D7 v J5 T4 t", "VA 1 t9: 5", "incr n 7; set n 0 9 1 / 5"},
			row{ahead, "ma n N9 v C77 J" + greatest, "VA 20: " + greatest, "incr n 1; set n 0 9 20 / " + greatest},
			row{ahead, "ma n N2592001 v J00042", "VA 2: 42", "incr n 1; set n 0 2592001 2 / 42"},
			row{ahead, "ma n N-1 v t", "VA 1 t0: 0", "incr n 1; set n 0 -1 1 / 0"},
			row{ahead, "ma n N9 q", "-", "incr n 1; set n 0 9 1 / 0"},
			row{ahead, "ma n N9 q v", "VA 1: 0", "incr n 1; set n 0 9 1 / 0"},
		)
	}
	// Nothing is marked, no delta is added.
	runs(t, opened(t), "ma n N0 J5 c t", "HD c1 t-1", "mg n v h l f", "VA 1 h0 l0 f0: 5", "ma n v", "VA 1: 6", "mg n v", "VA 1: 6")
}

// P14.7: of a value that is no number.
func TestArithOfNoNumber(t *testing.T) {
	for _, v := range []string{"x", "1 ", "-1", "18446744073709551616", strings.Repeat("0", 21), "+1"} {
		ahead := fmt.Sprintf("set s 5 10 %d / %s", len(v), v)
		holds(t,
			row{ahead, "ma s", "! " + noNumber, "incr s 1"},
			row{ahead, "ma s q v t c k", "! " + noNumber, "incr s 1"},
			row{ahead, "ma s MD D0", "! " + noNumber, "decr s 0"},
			row{ahead, "ma s C1", "! " + noNumber, "incr s 1"},
			row{ahead, "ma s N0 J5 T9", "! " + noNumber, "incr s 1"},
			row{ahead, "ma s C2 v", "EX", "cas s 0 0 0 2"},
		)
	}
	holds(t, row{"set s 0 0 0", "ma s", "! " + noNumber, "incr s 1"})
}

// P14.7: where the number grows out of its chunk, and where there is no other one.
func TestArithGrows(t *testing.T) {
	const item = "set n 5 10 5 / 99999; "
	holds(t,
		row{item, "ma n v t", "VA 6 t10: 100000", "incr n 1"},
		row{item + "mark n 6", "ma n T4 v t", "VA 6 t4: 100000", "incr n 1; touch n 4"},
	)
	c := small()
	c.ItemLimit = 64
	got, must := after(t, paced(t, c, usual()), item), after(t, paced(t, c, usual()), item)
	runs(t, got, "ma n T4 q", "! "+large)
	runs(t, must, "incr n 1", "! "+large)
	alike(t, "ma n", got, must)

	got, must = crowded(t), crowded(t)
	runs(t, got, "ma n N30 J5 q", "! "+noRoom)
	runs(t, must, "incr n 1", "NOT_FOUND", "set n 0 30 1 / 5", "! "+noRoom)
	alike(t, "ma n N30", got, must)
	key := strings.Repeat("k", 198)
	runs(t, opened(t), "ma "+key+" N0", "! "+large, "ma "+key[1:]+" N0 v", "VA 1: 0")
}
