package words_test

import (
	"slices"
	"strings"
	"testing"

	"granary/api"
)

// A slot is a word of a row: what it is, and a right one.
type slot struct{ kind, right string }

// A verbRow is a row of the chapter's table of verbs, with right words and the command that they tell.
type verbRow struct {
	spelled string
	slots   []slot // those in [ ] too
	least   int    // how many must stand
	endless bool
	quiet   bool
	block   int // what N says; -1, if there is no N
	told    api.Command
}

func storing(spelled string, v int) verbRow {
	c := timed(flags(verb(v, "a"), 5), -7)
	return verbRow{spelled, []slot{{"K", "a"}, {"F", "5"}, {"T", "-7"}, {"N", "3"}}, 4, false, true, 3, c}
}

func table() []verbRow {
	rows := []verbRow{
		{"get", []slot{{"K", "a"}, {"K", "b"}, {"K", "a"}}, 1, true, false, -1, verb(api.Get, "a", "b", "a")},
		{"gets", []slot{{"K", "a"}, {"K", "b"}}, 1, true, false, -1, verb(api.Gets, "a", "b")},
		{"gat", []slot{{"T", "60"}, {"K", "a"}, {"K", "b"}}, 2, true, false, -1, timed(verb(api.Gat, "a", "b"), 60)},
		{"gats", []slot{{"T", "-1"}, {"K", "b"}, {"K", "a"}}, 2, true, false, -1, timed(verb(api.Gats, "b", "a"), -1)},
		storing("set", api.Set), storing("add", api.Add), storing("replace", api.Replace),
		storing("append", api.Append), storing("prepend", api.Prepend),
		{"delete", []slot{{"K", "a"}, {"0", "0"}}, 1, false, true, -1, verb(api.Delete, "a")},
		{"incr", []slot{{"K", "a"}, {"D", "9"}}, 2, false, true, -1, delta(verb(api.Incr, "a"), 9)},
		{"decr", []slot{{"K", "a"}, {"D", "8"}}, 2, false, true, -1, delta(verb(api.Decr, "a"), 8)},
		{"touch", []slot{{"K", "a"}, {"T", "7"}}, 2, false, true, -1, timed(verb(api.Touch, "a"), 7)},
		{"flush_all", []slot{{"L", "6"}}, 0, false, true, -1, timed(verb(api.FlushAll), 6)},
		{"version", nil, 0, false, false, -1, verb(api.Version)},
		{"verbosity", []slot{{"V", "2"}}, 1, false, true, -1, verb(api.Verbosity)},
		{"quit", nil, 0, false, false, -1, verb(api.Quit)},
		{"stats", []slot{{"W", "reset"}}, 0, false, false, -1, what(verb(api.Stats), "reset")},
		{"mg", []slot{{"K", "a"}, {"M", "k"}, {"M", "Oxy"}}, 1, true, false, -1, meta(verb(api.MetaGet, "a"), "k", "Oxy")},
		{"ms", []slot{{"K", "a"}, {"N", "3"}, {"M", "k"}, {"M", "F7"}}, 2, true, false, 3, meta(verb(api.MetaSet, "a"), "k", "F7")},
		{"md", []slot{{"K", "a"}, {"M", "q"}, {"M", "I"}}, 1, true, false, -1, meta(verb(api.MetaDelete, "a"), "q", "I")},
		{"ma", []slot{{"K", "a"}, {"M", "D5"}, {"M", "t"}}, 1, true, false, -1, meta(verb(api.MetaArith, "a"), "D5", "t")},
		{"mn", nil, 0, false, false, -1, verb(api.MetaNoop)},
	}
	c := storing("cas", api.Cas)
	c.slots, c.least, c.told.Token = append(c.slots, slot{"C", "4"}), 5, 4
	return append(rows, c)
}

// words are the line's words with right ones in every place.
func (r verbRow) words() []string {
	out := []string{r.spelled}
	for _, s := range r.slots {
		out = append(out, s.right)
	}
	return out
}

// lengthAt is the place of N among the line's words; 0, if there is none.
func (r verbRow) lengthAt() int {
	return 1 + slices.IndexFunc(r.slots, func(s slot) bool { return s.kind == "N" })
}

// pass is the Pass of a wrong line of these words, if none of them but N itself is a number that N may be.
func (r verbRow) pass(words []string) int {
	at := r.lengthAt()
	if at == 0 || at >= len(words) || words[at] != r.slots[at-1].right {
		return -1
	}
	return r.block
}

// wrongs are words that are wrong in such a place, and what is told of them.
func wrongs(kind string) (string, []string) {
	no := []string{"x", "-1", "+1", "1x", "x1", "1.0", "0x1", "1_0", "\t1", "1\r", "\xd9\xa1", "noreply", "1\x00", "-", "99999999999999999999999999"}
	switch kind {
	case "K":
		return badLine, []string{many(251), "a\tb", "a\x00", "\x7f", "a\x7fb", "\x1f", "a\rb", "\r", "a\n"}
	case "F":
		return badLine, append(no, "4294967296")
	case "N", "V":
		return badLine, append(no, "2147483648", "4294967296", "9223372036854775808")
	case "C":
		return badLine, append(no, "18446744073709551616")
	case "D":
		return badDelta, append(no, "18446744073709551616")
	case "0":
		return badLine, []string{"00", "1", "-0", "+0", "x", "noreply0", "0\r"}
	case "W":
		return badLine, []string{"items", "RESET", "Reset", "rese", "resets", "0", "noreply"}
	case "T", "L":
		out := []string{"x", "+1", "-", "--1", "-+1", "1-", "1x", "-x", "1_0", "0x1", "9223372036854775808", "-9223372036854775809", "99999999999999999999999999", "-99999999999999999999999999", "1\r"}
		if kind == "L" {
			out = append(out, "-1", "-9223372036854775808")
		}
		return badTime, out
	}
	return noFlag, []string{"z", "0", "noreply", "\xff", "\r"}
}

// P11.3 and the table of verbs: right words.
func TestRight(t *testing.T) {
	rows := table()
	if len(rows) != api.MetaNoop {
		t.Fatalf("%d verbs", len(rows))
	}
	for _, r := range rows {
		reads(t, strings.Join(r.words(), " "), r.told, r.block)
		reads(t, "  "+strings.Join(r.words(), "   ")+" ", r.told, r.block)
		if r.quiet {
			reads(t, strings.Join(r.words(), " ")+" noreply", quiet(r.told), r.block)
		}
	}
}

// What stands in [ ] may be left out; and one K is enough, and no flag.
func TestLeftOut(t *testing.T) {
	for _, r := range table() {
		c := r.told
		switch {
		case len(r.slots) == r.least:
			continue
		case r.slots[r.least].kind == "K":
			c.Keys = c.Keys[:1]
		default:
			c.Meta, c.What = nil, ""
		}
		if r.spelled == "flush_all" {
			c.Exptime = 0
		}
		line := strings.Join(r.words()[:1+r.least], " ")
		reads(t, line, c, r.block)
		if r.quiet {
			reads(t, line+" noreply", quiet(c), r.block)
		}
	}
}

// P11.3, 3: fewer words than the row wants, and more.
func TestFewAndMany(t *testing.T) {
	for _, r := range table() {
		w := r.words()
		for n := 1; n <= r.least; n++ {
			refuses(t, strings.Join(w[:n], " "), client(badLine, r.pass(w[:n])))
		}
		if r.endless {
			continue
		}
		for _, more := range []string{"0", "x", "a 0", "\x7f", "0 0 0 0 0"} {
			refuses(t, strings.Join(w, " ")+" "+more, client(badLine, r.pass(w)))
			if r.quiet {
				refuses(t, strings.Join(w, " ")+" "+more+" noreply", client(badLine, r.pass(w)))
			}
		}
		if !r.quiet {
			refuses(t, strings.Join(w, " ")+" noreply", client(badLine, r.pass(w)))
		}
	}
}

// The number of words is looked at ahead of the words.
func TestManyAheadOfWrong(t *testing.T) {
	refuses(t, "incr a x y", client(badLine, -1))
	refuses(t, "touch a x y", client(badLine, -1))
	refuses(t, "flush_all x y", client(badLine, -1))
	refuses(t, "gat x", client(badLine, -1))
	refuses(t, "set a 0 x 3 4", client(badLine, 3))
	refuses(t, "cas a 0 x 3", client(badLine, 3))
}

// P11.3, 4: each word wrong alone.
func TestOneWrong(t *testing.T) {
	for _, r := range table() {
		for i, s := range r.slots {
			text, wrong := wrongs(s.kind)
			for _, x := range wrong {
				w := r.words()
				w[1+i] = x
				if r.quiet && x == "noreply" && i+2 == len(w) && i >= r.least {
					continue // it is the command's
				}
				refuses(t, strings.Join(w, " "), client(text, r.pass(w)))
				if r.quiet {
					refuses(t, strings.Join(w, " ")+" noreply", client(text, r.pass(w)))
				}
			}
		}
	}
}

// P11.3, 4: two wrong words in one line: the first from the left is told.
func TestTwoWrong(t *testing.T) {
	for _, r := range table() {
		for i := range r.slots {
			for j := range i {
				w := r.words()
				_, later := wrongs(r.slots[i].kind)
				text, first := wrongs(r.slots[j].kind)
				w[1+i], w[1+j] = later[0], first[0]
				refuses(t, strings.Join(w, " "), client(text, r.pass(w)))
			}
		}
	}
	refuses(t, "set a x x 1", client(badLine, 1))
	refuses(t, "set a 0 x x", client(badTime, -1))
	refuses(t, "touch a\x7f x", client(badLine, -1))
	refuses(t, "gat x \x7f", client(badTime, -1))
	refuses(t, "incr \x7f x", client(badLine, -1))
	refuses(t, "ms \x7f 2 z", client(badLine, 2))
	refuses(t, "ms a x z", client(badLine, -1))
	refuses(t, "mg \x7f z", client(badLine, -1))
	refuses(t, "mg a v k1 z", client(badToken, -1))
	refuses(t, "mg a v z k1", client(noFlag, -1))
}

// P11.3, 2: no verb; and verbs are spelled in small letters.
func TestNoVerb(t *testing.T) {
	for _, line := range []string{"", " ", "    ", "x", "x a", "geta", "ge", "get\ta", "\tget a", "get\r", "\r", "\x00", "noreply", "flush-all", "flushall", "0", "sets a 0 0 1", "me a", "mx", "\xff", "\"get\" a"} {
		refuses(t, line, noVerb)
	}
	for _, r := range table() {
		w := r.words()
		for _, x := range []string{strings.ToUpper(w[0]), strings.ToUpper(w[0][:1]) + w[0][1:], w[0] + "x", w[0] + "\x00", "x" + w[0]} {
			refuses(t, strings.Join(append([]string{x}, w[1:]...), " "), noVerb)
		}
	}
}

// P11.11: fields that the verb does not use are zero, and there are as many keys as the row wants.
func TestUsed(t *testing.T) {
	for _, x := range []struct {
		line string
		must api.Command
	}{
		{"delete a 0", verb(api.Delete, "a")},
		{"verbosity 2147483647", verb(api.Verbosity)},
		{"verbosity 0 noreply", quiet(verb(api.Verbosity))},
		{"flush_all 0", verb(api.FlushAll)},
		{"flush_all -00", verb(api.FlushAll)},
		{"version", verb(api.Version)},
		{"get reset 0 noreply", verb(api.Get, "reset", "0", "noreply")},
	} {
		reads(t, x.line, x.must, -1)
	}
}
