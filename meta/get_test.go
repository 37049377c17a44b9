package meta_test

import (
	"fmt"
	"strings"
	"testing"

	"granary/api"
	"granary/meta"
	"granary/store"
)

// P14.4, 1 and 2, P14.10: a live item, by its marks.
func TestGetMarks(t *testing.T) {
	const item = "set a 5 10 1 / x; set b 0 0 1 / y; "
	holds(t,
		row{item, "mg a", "HD", "get a"},
		row{item, "mg a v", "VA 1: x", "get a"},
		row{item + "mark a 2", "mg a", "HD X W", "get a; mark a 6"},
		row{item + "mark a 2", "mg a v", "VA 1 X W: x", "get a; mark a 6"},
		row{item + "mark a 4", "mg a", "HD Z", "get a"},
		row{item + "mark a 6", "mg a", "HD X Z", "get a"},
		row{item + "mark a 6", "mg a v k", "VA 1 ka X Z: x", "get a"},
		row{item + "mark a 2; get a; tick 1", "mg a h l", "HD h1 l1 X W", "get a; mark a 6"},
	)
	// Marks of another key are not looked at.
	runs(t, after(t, opened(t), item+"mark b 6"), "mg a", "HD", "mg b", "HD X Z")
}

// P14.4, 2: R below, at and above the ticks left, of an item with each of the marks.
func TestGetRecache(t *testing.T) {
	const item = "set a 5 10 1 / x; "
	holds(t,
		row{item, "mg a R0", "HD", "get a"},
		row{item, "mg a R9", "HD", "get a"},
		row{item, "mg a R10", "HD", "get a"},
		row{item, "mg a R11", "HD W", "get a; mark a 4"},
		row{item, "mg a R11 v t", "VA 1 t10 W: x", "get a; mark a 4"},
		row{item, "mg a R" + greatest, "HD W", "get a; mark a 4"},
		row{item, "mg a R9223372036854775808", "HD W", "get a; mark a 4"},
		row{item + "tick 9", "mg a R1", "HD", "get a"},
		row{item + "tick 9", "mg a R2", "HD W", "get a; mark a 4"},
		row{item + "mark a 4", "mg a R11", "HD Z", "get a"},
		row{item + "mark a 2", "mg a R0", "HD X W", "get a; mark a 6"},
		row{item + "mark a 2", "mg a R11", "HD X W", "get a; mark a 6"},
		row{item + "mark a 6", "mg a R11", "HD X Z", "get a"},
	)
	// An item that never expires is never short.
	const forever = "set a 5 0 1 / x; "
	for _, n := range []string{"0", "1", "30", "9223372036854775807", "9223372036854775808", greatest} {
		holds(t,
			row{forever, "mg a R" + n, "HD", "get a"},
			row{forever + "mark a 4", "mg a R" + n, "HD Z", "get a"},
			row{forever + "mark a 2", "mg a R" + n, "HD X W", "get a; mark a 6"},
			row{item, "mg a T0 t R" + n, "HD t-1", "gat 0 a"},
		)
	}
}

// P14.4, 1: with T the item has T's time, and the ticks left, also for R, are those of it.
func TestGetTouch(t *testing.T) {
	const item = "set a 5 10 1 / x; tick 2; "
	holds(t,
		row{item, "mg a T30 t", "HD t30", "gat 30 a"},
		row{item, "mg a T0 t", "HD t-1", "gat 0 a"},
		row{item, "mg a T2592000 t", "HD t2592000", "gat 2592000 a"},
		row{item, "mg a T2592001 t", "HD t2591998", "gat 2592001 a"},
		row{item, "mg a T-1 t v", "VA 1 t0: x", "gat -1 a"},
		row{item, "mg a T-9223372036854775808 t", "HD t0", "gat -9223372036854775808 a"},
		row{item, "mg a T9223372036854775807 t", "HD t9223372036854775804", "gat 9223372036854775807 a"},
		row{item, "mg a T30 R30", "HD", "gat 30 a"},
		row{item, "mg a T30 R31", "HD W", "gat 30 a; mark a 4"},
		row{item, "mg a T9223372036854775807 R9223372036854775804", "HD", "gat 9223372036854775807 a"},
		row{item, "mg a T9223372036854775807 R9223372036854775805", "HD W", "gat 9223372036854775807 a; mark a 4"},
		// It is dead behind this, and has no marks any more; it is told all the same.
		row{item, "mg a T-1 R0", "HD", "gat -1 a"},
		row{item, "mg a T-1 R1", "HD W", "gat -1 a"},
		row{item + "mark a 2", "mg a T-1", "HD X W", "gat -1 a"},
		row{item + "mark a 4", "mg a T-1", "HD Z", "gat -1 a"},
		row{item + "mark a 6", "mg a T-1", "HD X Z", "gat -1 a"},
		row{item + "mark a 2", "mg a T7 t", "HD t7 X W", "gat 7 a; mark a 6"},
		// Of a key that is not live it does nothing.
		row{item, "mg b T30", "EN", "gat 30 b"},
		row{item, "mg b T30 v k", "EN", "gat 30 b"},
		row{item + "tick 9", "mg a T30", "EN", "gat 30 a"},
	)
	for _, p := range []api.Pace{usual(), slow()} {
		s := after(t, paced(t, small(), p), item)
		runs(t, s, "mg a T-1 v t", "VA 1 t0: x", "mg a", "EN", "get a", "END", "mg a N0", "HD W")
	}
}

// A time that names a tick which is over: fewer than no ticks are left.
func TestGetOver(t *testing.T) {
	const item = "tick 2592100; set a 5 10 1 / x; "
	holds(t,
		row{item, "mg a T2592001 t", "HD t-100", "gat 2592001 a"},
		row{item, "mg a T2592001 t R0", "HD t-100 W", "gat 2592001 a"},
		row{item, "mg a T2592101 t R0", "HD t0", "gat 2592101 a"},
		row{item, "mg a T2592102 t R1", "HD t1", "gat 2592102 a"},
		row{item, "mg z N2592001 t", "HD t-100 W", "get z; set z 0 2592001 0"},
	)
}

// P14.4, 3: N of a key that is missing, dead by its time, dead by a flush, and live.
func TestGetVivify(t *testing.T) {
	const old = "set a 5 10 1 / x; set b 0 0 1 / y; "
	for _, dead := range []string{"", "set b 0 0 1 / y; ", old + "tick 10", old + "flush_all", old + "mark a 6; tick 11", old + "delete a", old + "flush_all 1; tick 1"} {
		for _, x := range [][2]string{{"0", "-1"}, {"30", "30"}, {"-0", "-1"}, {"2592000", "2592000"}} {
			holds(t,
				row{dead, "mg a", "EN", "get a"},
				row{dead, "mg a N" + x[0] + " t s f h l", "HD t" + x[1] + " s0 f0 h0 l0 W", "get a; set a 0 " + x[0] + " 0; mark a 4"},
				row{dead, "mg a v N" + x[0], "VA 0 W: ", "get a; set a 0 " + x[0] + " 0; mark a 4"},
				row{dead, "mg a k N" + x[0] + " T9 R" + greatest, "HD ka W", "gat 9 a; set a 0 " + x[0] + " 0; mark a 4"},
			)
		}
		holds(t,
			// It is dead as soon as it is there.
			row{dead, "mg a N-1 t", "HD t0 W", "get a; set a 0 -1 0"},
			row{dead, "mg a N-9223372036854775808 t v", "VA 0 t0 W: ", "get a; set a 0 -1 0"},
		)
	}
	holds(t,
		row{old, "mg a N30 t v", "VA 1 t10: x", "get a"},
		row{old, "mg a N-1", "HD", "get a"},
		row{old + "mark a 2", "mg a N30", "HD X W", "get a; mark a 6"},
		row{old, "mg a N30 T5 t", "HD t5", "gat 5 a"},
	)
	runs(t, opened(t), "set a 0 0 1 / x", "STORED", "mg q N9 c", "HD c2 W", "mg q N9 c v", "VA 0 c2 Z: ", "get q", "q= END", "mg q R99", "HD Z")
}

// P14.4, 3: the store refuses to make one.
func TestGetVivifyRefused(t *testing.T) {
	for _, flags := range []string{"N30", "N30 v t k Oz", "q N0", "T9 N-1 R3"} {
		got, must := crowded(t), crowded(t)
		runs(t, got, "mg a "+flags, "! "+noRoom)
		read := "get a"
		if flags[0] == 'T' {
			read = "gat 9 a"
		}
		runs(t, must, read, "END", "set a 0 0 0", "! "+noRoom)
		alike(t, "mg a "+flags, got, must)
	}
	key := strings.Repeat("k", 199) // 58 and it are above 256
	got, must := opened(t), opened(t)
	runs(t, got, "mg "+key, "EN", "mg "+key+" N0 v", "! "+large)
	runs(t, must, "get "+key, "END", "get "+key, "END", "set "+key+" 0 0 0", "! "+large)
	alike(t, "mg of a key that is too long", got, must)
	runs(t, opened(t), "mg "+key[1:]+" N0 v", "VA 0 W: ")
}

// P14.4: one item is dropped for the one that N makes, as a Set does.
func TestGetVivifyDrops(t *testing.T) {
	c := small()
	c.Pages = 3
	got, must := paced(t, c, usual()), paced(t, c, usual())
	for _, s := range []*store.Store{got, must} {
		after(t, s, "set c 0 0 180 / "+long(180)+"; set b 0 0 60 / "+long(60))
		for i := range 64 {
			runs(t, s, fmt.Sprintf("set k%03d 0 0 1 / x", i), "STORED")
		}
	}
	runs(t, got, "mg a N30 c", "HD c67 W")
	runs(t, must, "get a", "END", "set a 0 30 0", "STORED", "mark a 4", "true")
	if got.Meter().Dropped != 1 {
		t.Errorf("Meter: %+v", got.Meter())
	}
	alike(t, "mg a N30", got, must)
}

// Only Keys and Meta are looked at.
func TestGetLooksAtItsOwn(t *testing.T) {
	for _, text := range []string{"mg a v t", "mg q N0 v", "mg a T9 t", "mg q", "md a", "md a I c", "ma n v", "ma q N0 v", "ma n T3 t"} {
		got, must := opened(t), opened(t)
		for _, s := range []*store.Store{got, must} {
			after(t, s, "set a 5 10 1 / x; set n 3 0 1 / 1")
		}
		c := read(t, text)
		line := shown(t, meta.Do(must, c))
		c.Flags, c.Exptime, c.Token, c.Delta, c.Data, c.Noreply, c.Large, c.What = 1<<40, -1, 99, 77, []byte(long(999)), true, true, "reset"
		if got := shown(t, meta.Do(got, c)); got != line {
			t.Errorf("%q is answered %q, not %q", text, got, line)
		}
		alike(t, text, got, must)
	}
}
