package meta_test

import (
	"fmt"
	"slices"
	"strings"
	"testing"

	"granary/api"
	"granary/meta"
	"granary/store"
)

// P14.5, P14.10: the table of modes, written out: an item a of token 2, or none.
func TestSet(t *testing.T) {
	const item = "set b 0 0 1 / y; set a 5 10 1 / x; set c 0 0 1 / z; "
	for _, ahead := range []string{item, item + "mark a 2; ", item + "mark a 4; ", item + "mark a 6; ", item + "get a; "} {
		holds(t,
			row{ahead, "ms a 1 / n", "HD", "set a 0 0 1 / n"},
			row{ahead, "ms a 1 F7 T30 c / n", "HD c4", "set a 7 30 1 / n"},
			row{ahead, "ms a 1 MS I / n", "HD", "set a 0 0 1 / n"},
			row{ahead, "ms a 1 ME / n", "NS", "add a 0 0 1 / n"},
			row{ahead, "ms a 1 MR F7 / n", "HD", "replace a 7 0 1 / n"},
			row{ahead, "ms a 1 MA F7 T30 / n", "HD", "append a 7 30 1 / n"},
			row{ahead, "ms a 1 MP c / n", "HD c4", "prepend a 0 0 1 / n"},

			row{ahead, "ms a 1 C2 c / n", "HD c4", "cas a 0 0 1 2 / n"},
			row{ahead, "ms a 1 C2 I F7 T30 / n", "HD", "cas a 7 30 1 2 / n"},
			row{ahead, "ms a 1 C1 / n", "EX", "cas a 0 0 1 1 / n"},
			row{ahead, "ms a 1 C3 I c / n", "EX", "cas a 0 0 1 3 / n"},
			row{ahead, "ms a 1 C" + greatest + " I / n", "EX", "cas a 0 0 1 " + greatest + " / n"},
			row{ahead, "ms a 1 C1 I c F7 T30 / n", "HD c4", "set a 7 30 1 / n; mark a 2"},
			row{ahead, "ms a 1 C0 I / n", "HD", "set a 0 0 1 / n; mark a 2"},
			row{ahead, "ms a 1 C1 I T-1 / n", "HD", "set a 0 -1 1 / n"},

			row{ahead, "ms a 1 MR C2 / n", "HD", "cas a 0 0 1 2 / n"},
			row{ahead, "ms a 1 MR C1 / n", "EX", "cas a 0 0 1 1 / n"},
			row{ahead, "ms a 1 MR C3 I / n", "EX", "cas a 0 0 1 3 / n"},
			row{ahead, "ms a 1 MR C1 I F7 / n", "HD", "set a 7 0 1 / n; mark a 2"},

			row{ahead, "ms a 1 ME C2 / n", "NS", "add a 0 0 1 / n"},
			row{ahead, "ms a 1 ME C1 I / n", "NS", "add a 0 0 1 / n"},
			row{ahead, "ms a 1 ME C3 / n", "NS", "add a 0 0 1 / n"},

			row{ahead, "ms a 1 MA C2 c / n", "HD c4", "append a 0 0 1 / n"},
			row{ahead, "ms a 1 MA C2 I / n", "HD", "append a 0 0 1 / n"},
			row{ahead, "ms a 1 MA C1 I F7 / n", "HD", "append a 7 0 1 / n; mark a 2"},
			row{ahead, "ms a 1 MA C1 / n", "EX", "cas a 0 0 0 1"},
			row{ahead, "ms a 1 MA C3 I / n", "EX", "cas a 0 0 0 3"},
			row{ahead, "ms a 1 MP C1 I / n", "HD", "prepend a 0 0 1 / n; mark a 2"},
			row{ahead, "ms a 1 MP C3 / n", "EX", "cas a 0 0 0 3"},
		)
	}
}

// P14.5: without an item.
func TestSetOfNone(t *testing.T) {
	const old = "set a 5 10 1 / x; set b 0 0 1 / y; "
	for _, ahead := range []string{"", old + "delete a", old + "tick 10", old + "flush_all", old + "mark a 6; tick 11"} {
		holds(t,
			row{ahead, "ms a 1 F7 T3 / n", "HD", "set a 7 3 1 / n"},
			row{ahead, "ms a 1 ME I / n", "HD", "add a 0 0 1 / n"},
			row{ahead, "ms a 1 MR / n", "NS", "replace a 0 0 1 / n"},
			row{ahead, "ms a 1 MA / n", "NS", "append a 0 0 1 / n"},
			row{ahead, "ms a 1 MP / n", "NS", "prepend a 0 0 1 / n"},
		)
		for _, c := range []string{"C0", "C1", "C2", "C" + greatest} {
			for _, i := range []string{"", " I"} {
				token := c[1:]
				holds(t,
					row{ahead, "ms a 1 " + c + i + " / n", "NF", "cas a 0 0 1 " + token + " / n"},
					row{ahead, "ms a 1 ME " + c + i + " / n", "NF", "cas a 0 0 1 " + token + " / n"},
					row{ahead, "ms a 1 MR " + c + i + " / n", "NS", "replace a 0 0 1 / n"},
					row{ahead, "ms a 1 MA " + c + i + " / n", "NS", "append a 0 0 1 / n"},
					row{ahead, "ms a 1 MP " + c + i + " / n", "NS", "prepend a 0 0 1 / n"},
				)
			}
		}
	}
}

// P14.5: what is too large, by the item limit, by Large, and by what is joined. The look is asked of no block.
func TestSetTooLarge(t *testing.T) {
	item := "set b 0 0 1 / y; set a 5 10 90 / " + long(90) + "; "
	block := " / " + long(198)
	longer := " / " + long(110)
	for _, x := range []struct{ flags, verb, behind string }{
		{"", "set a 0 0", ""},
		{" ME", "add a 0 0", ""},
		{" MR", "replace a 0 0", ""},
		{" MA", "append a 0 0", ""},
		{" MP", "prepend a 0 0", ""},
		{" C2", "cas a 0 0", " 2"},
		{" C1", "cas a 0 0", " 1"},
		{" C1 I", "set a 0 0", ""},
		{" C3 I", "cas a 0 0", " 3"},
		{" MR C1 I", "set a 0 0", ""},
		{" MR C3", "cas a 0 0", " 3"},
		{" ME C2", "add a 0 0", ""},
		{" MA C2", "append a 0 0", ""},
		{" MA C1 I", "append a 0 0", ""},
		{" MP C1 I", "prepend a 0 0", ""},
	} {
		holds(t,
			row{item, "ms a 198 q" + x.flags + block, "! " + large, x.verb + " 198" + x.behind + block},
			row{item, "ms a 0" + x.flags + " Large", "! " + large, x.verb + " 0" + x.behind + " Large"},
			row{item, "ms a 9 k" + x.flags + " Large", "! " + large, x.verb + " 9" + x.behind + " Large"},
		)
		if strings.Contains(x.verb, "pend") {
			holds(t, row{item, "ms a 110" + x.flags + longer, "! " + large, x.verb + " 110" + longer})
		}
	}
	for _, mode := range []string{"MA", "MP", "Ma", "Mp"} {
		holds(t,
			row{item, "ms a 198 C3 I " + mode + block, "EX", "cas a 0 0 0 3"},
			row{item, "ms a 0 C1 " + mode + " Large", "EX", "cas a 0 0 0 1"},
		)
	}
	for _, flags := range []string{"", " ME", " MR", " MA", " C1", " ME C1", " MR C1", " MP C1 I"} {
		runs(t, opened(t), "ms a 0"+flags+" Large", "! "+large)
	}
	runs(t, opened(t), "ms a 197 / "+long(197), "HD", "mg a s", "HD s197", "ms a 198 / "+long(198), "! "+large, "mg a", "EN")
}

// tableRow is a row of P14.5's table.
type tableRow struct {
	modes string
	item  string // "with", "without", "" for both
	c     string // "none", "older" (with I), "same", "else"
	verb  string // "" is the mode's own, "look" the look
	stale bool
}

// theTable is P14.5's, in its order: the first row that holds is the one.
func theTable() []tableRow {
	return []tableRow{
		{"SERAP", "", "none", "", false},
		{"S", "", "older", "set", true},
		{"R", "with", "older", "set", true},
		{"S", "", "else", "cas", false},
		{"R", "with", "else", "cas", false},
		{"R", "without", "else", "", false},
		{"E", "with", "else", "", false},
		{"E", "without", "else", "cas", false},
		{"AP", "without", "else", "", false},
		{"AP", "with", "same", "", false},
		{"AP", "with", "older", "", true},
		{"AP", "with", "else", "look", false},
	}
}

// rowOf is the row for a mode, an item's token (0: there is none), C (-1: there is none) and I.
func rowOf(mode byte, token, c int, i bool) tableRow {
	at := slices.IndexFunc(theTable(), func(r tableRow) bool {
		switch {
		case strings.IndexByte(r.modes, mode) < 0, r.item == "with" && token == 0, r.item == "without" && token > 0:
			return false
		case r.c == "none":
			return c < 0
		case r.c == "older":
			return c >= 0 && i && token > c
		case r.c == "same":
			return c >= 0 && token == c
		}
		return c >= 0
	})
	return theTable()[at]
}

// own is the verb of a mode.
func own(mode byte) string {
	return map[byte]string{'S': "set", 'E': "add", 'R': "replace", 'A': "append", 'P': "prepend"}[mode]
}

// P14.5: every mode, great and small, with and without an item, of each C, with and without I, Large or not.
func TestSetTable(t *testing.T) {
	modes := []string{"", "MS", "Ms", "ME", "Me", "MR", "Mr", "MA", "Ma", "MP", "Mp"}
	for _, m := range modes {
		mode := byte('S')
		if m != "" {
			mode = strings.ToUpper(m)[1]
		}
		for _, token := range []int{0, 3} {
			for c := -1; c <= 5; c++ {
				for _, i := range []bool{false, true} {
					for _, tail := range []string{" / new", " Large", " / " + long(196)} {
						oneOfTheTable(t, m, rowOf(mode, token, c, i), mode, token, c, i, tail)
					}
				}
			}
		}
	}
}

// oneOfTheTable holds one command against the call of its row.
func oneOfTheTable(t *testing.T, m string, r tableRow, mode byte, token, c int, i bool, tail string) {
	t.Helper()
	ahead := "set b 0 0 1 / y; set c 0 0 1 / z; "
	if token > 0 {
		ahead += "set a 5 10 2 / xx; mark a 6"
	}
	n := len(strings.TrimPrefix(tail, " / "))
	if tail == " Large" {
		n = 0
	}
	flags := " F7 T30 " + m
	if i {
		flags += " I"
	}
	if c >= 0 {
		flags += fmt.Sprint(" C", c)
	}
	verb := r.verb
	if verb == "" {
		verb = own(mode)
	}
	call := fmt.Sprintf("%s a 7 30 %d%s", verb, n, tail)
	switch verb {
	case "cas":
		call = fmt.Sprintf("cas a 7 30 %d %d%s", n, c, tail)
	case "look":
		call = fmt.Sprintf("cas a 0 0 0 %d", c)
	}
	got, must := after(t, opened(t), ahead), after(t, opened(t), ahead)
	command := fmt.Sprintf("ms a %d%s%s", n, flags, tail)
	answer := calls(t, must, call)
	if r.stale && answer == "STORED" {
		runs(t, must, "mark a 2", "true")
	}
	line := map[string]string{"STORED": "HD", "NOT_STORED": "NS", "EXISTS": "EX", "NOT_FOUND": "NF"}[answer]
	if line == "" {
		line = answer
	}
	runs(t, got, command, line)
	alike(t, command, got, must)
}

// P14.5: mode E with C stores nothing, whatever C is; I without C does nothing.
func TestSetAsTheTextSays(t *testing.T) {
	for _, c := range []string{"0", "1", "2", "3", greatest} {
		s := after(t, opened(t), "set a 0 0 1 / x")
		runs(t, s, "ms a 1 ME C"+c+" / y", "NS", "ms q 1 ME C"+c+" / y", "NF", "ms a 1 ME I C"+c+" / y", "NS", "ms q 1 ME I C"+c+" / y", "NF", "get a q", "a=x END")
		if s.Issued() != 1 {
			t.Errorf("%d tokens are issued", s.Issued())
		}
	}
	for _, m := range []string{"", " MR", " MA", " MP"} {
		s := after(t, opened(t), "set a 0 0 1 / x; mark a 6")
		runs(t, s, "ms a 1 I"+m+" / y", "HD")
		if got := marksOf(t, s, "a"); got != "" {
			t.Errorf("ms with I%s has left a %s", m, got)
		}
	}
}

// P14.5: what is refused for room is told, and what the store does with the old item stands.
func TestSetWithoutRoom(t *testing.T) {
	for _, flags := range []string{"", " MS", " ME", " q", " k Oz"} {
		got, must := crowded(t), crowded(t)
		runs(t, got, "ms a 1"+flags+" / x", "! "+noRoom)
		verb := "set"
		if flags == " ME" {
			verb = "add"
		}
		runs(t, must, verb+" a 0 0 1 / x", "! "+noRoom)
		alike(t, "ms a"+flags, got, must)
	}
	// An item of the last class is stored anew as a small one, for which there is no chunk.
	for flags, call := range map[string]string{"": "set big000 0 0 1 / x", " C1": "cas big000 0 0 1 1 / x", " MR": "replace big000 0 0 1 / x", " C0 I": "set big000 0 0 1 / x", " MR C0 I": "set big000 0 0 1 / x"} {
		got, must := crowded(t), crowded(t)
		runs(t, got, "ms big000 1"+flags+" / x", "! "+noRoom, "mg big000", "EN")
		runs(t, must, call, "! "+noRoom, "get big000", "END")
		alike(t, "ms big000"+flags, got, must)
	}
}

// Of MetaSet Keys, Meta, Data and Large alone are looked at.
func TestSetLooksAtItsOwn(t *testing.T) {
	for _, text := range []string{"ms a 1 / n", "ms a 1 C1 / n", "ms a 1 MA C0 I c / n", "ms q 1 F3 T5 / n", "ms a 1 C7 MA / n"} {
		got, must := opened(t), opened(t)
		for _, s := range []*store.Store{got, must} {
			after(t, s, "set a 5 10 1 / x")
		}
		c := read(t, text)
		line := shown(t, meta.Do(must, c))
		c.Flags, c.Exptime, c.Token, c.Delta, c.Noreply, c.What = api.MaxFlags+1, -1, 99, 77, true, "reset"
		if got := shown(t, meta.Do(got, c)); got != line {
			t.Errorf("%q is answered %q, not %q", text, got, line)
		}
		alike(t, text, got, must)
	}
}
