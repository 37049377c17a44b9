package words_test

import (
	"strings"
	"testing"

	"granary/api"
)

// The table 'Runs': lines, keys and blocks.
func TestRuns(t *testing.T) {
	get := verb(api.Get, "a")
	all(t, "\r\n", 9, fails(noVerb, 0))
	all(t, "get  a \n", 9, done(get, 0))
	all(t, "GET a\r\n", 9, fails(noVerb, 0))

	all(t, "get\r\n", 9, fails(client(badLine, -1), 0))
	all(t, "get a\tb\n", 9, fails(client(badLine, -1), 0))
	all(t, "get "+many(251)+" a\r\n", 9, fails(client(badLine, -1), 0))

	tells(t, "set a x 0 1 noreply\r\n1\r\nget a\n", 9, 0, fails(client(badLine, 1), 24), done(get, 30))
	tells(t, "set a 0 0 -1\r\nget a\r\n", 9, 0, fails(client(badLine, -1), 14), done(get, 21))
	tells(t, "set a x 0 10\r\nget a\r\n", 9, 0, fails(client(badLine, 10), 14), done(get, 21))

	chunk := fails(client(badBlock, -1), 19)
	tells(t, "set a 0 0 3\r\nabcd\r\nget a\r\n", 9, 0, chunk, done(get, 26))
	chunk.To = 17
	tells(t, "set a 0 0 3\r\nabc\nget a\r\n", 9, 0, chunk, done(get, 24))
	chunk.To = 19
	tells(t, "set a 0 0 3\r\nabc\rx\nget a\n", 9, 0, chunk, done(get, 25))

	all(t, "set a 0 0 99999999999\r\n", 9, fails(client(badLine, -1), 0))
	all(t, "set a 0 0 10\r\n0123456789\r\n", 9, done(large(verb(api.Set, "a")), 0))
	tells(t, "set a 0 0 10\r\n0123456789\r", 9, 25)
	// The same bytes but for the last 13, with the 10 or without it.
	all(t, "set a 0 0 10\r\n0123456789\n", 9, done(large(verb(api.Set, "a")), 0))
	tells(t, "set a 0 0 10\r\n0123456789", 9, 24)
}

// The table 'Runs': times, noreply, the line's length, quit.
func TestRunsOfWords(t *testing.T) {
	all(t, "touch a 9223372036854775808\n", 9, fails(client(badTime, -1), 0))
	all(t, "touch a -9223372036854775808\n", 9, done(timed(verb(api.Touch, "a"), least), 0))

	all(t, "flush_all noreply\r\n", 9, done(quiet(verb(api.FlushAll)), 0))
	all(t, "flush_all -1\n", 9, fails(client(badTime, -1), 0))
	all(t, "flush_all -0\n", 9, done(verb(api.FlushAll), 0))
	all(t, "flush_all 1 2\n", 9, fails(client(badLine, -1), 0))

	all(t, "delete a 0 noreply\n", 9, done(quiet(verb(api.Delete, "a")), 0))
	all(t, "delete a 00\n", 9, fails(client(badLine, -1), 0))
	all(t, "delete noreply\n", 9, done(verb(api.Delete, "noreply"), 0))
	all(t, "delete noreply noreply\n", 9, done(quiet(verb(api.Delete, "noreply")), 0))

	all(t, "incr a 18446744073709551616\n", 9, fails(client(badDelta, -1), 0))
	all(t, "verbosity noreply\n", 9, fails(client(badLine, -1), 0))

	all(t, many(2048)+"\r\n", 9, fails(noVerb, 0))
	all(t, many(2049)+"\n", 9, fails(client(tooLong, -1), 0))

	tells(t, "quit\r\nget a\r\n", 9, 0, done(verb(api.Quit), 6))
	tells(t, "get a", 9, 5)
	tells(t, "get a\r", 9, 6)

	noForm(t, verb(api.Get))
	noForm(t, quiet(verb(api.Get, "a")))
	noForm(t, timed(verb(api.FlushAll), -1))
}

// The table 'Runs': the meta commands and stats.
func TestRunsOfMeta(t *testing.T) {
	all(t, "mg a v v\r\n", 9, fails(client(twice, -1), 0))
	all(t, "mg a z\n", 9, fails(client(noFlag, -1), 0))
	all(t, "mg a k1\n", 9, fails(client(badToken, -1), 0))
	all(t, "mg a T\n", 9, fails(client(badToken, -1), 0))
	all(t, "mg a O"+many(33)+"\n", 9, fails(client(badOpaque, -1), 0))

	all(t, "ms a 2 T30 c\r\nhi\r\n", 9, done(data(meta(verb(api.MetaSet, "a"), "T30", "c"), "hi"), 0))
	all(t, "ms a x\n", 9, fails(client(badLine, -1), 0))
	tells(t, "ms a 2 z\r\nhi\r\nmn\n", 9, 0, fails(client(noFlag, 2), 14), done(verb(api.MetaNoop), 17))

	all(t, "ma n MI D5 N0\n", 9, done(meta(verb(api.MetaArith, "n"), "MI", "D5", "N0"), 0))
	all(t, "ma n Mi\n", 9, done(meta(verb(api.MetaArith, "n"), "Mi"), 0))
	all(t, "ma n MS\n", 9, fails(client(badToken, -1), 0))
	all(t, "md a I C7\n", 9, done(meta(verb(api.MetaDelete, "a"), "I", "C7"), 0))
	all(t, "mn x\n", 9, fails(client(badLine, -1), 0))
	all(t, "mg\n", 9, fails(client(badLine, -1), 0))

	all(t, "stats\n", 9, done(verb(api.Stats), 0))
	all(t, "stats reset\n", 9, done(what(verb(api.Stats), "reset"), 0))
	all(t, "stats items\n", 9, fails(client(badLine, -1), 0))
	all(t, "stats reset noreply\n", 9, fails(client(badLine, -1), 0))
}

// The section 'Examples'.
func TestExamples(t *testing.T) {
	tells(t, "cas k 1 -1 1 7\r\nx\r\n", 1, 0, done(token(timed(flags(data(verb(api.Cas, "k"), "x"), 1), -1), 7), 19))
	writes(t, quiet(data(flags(verb(api.Set, "a"), 5), "x")), "set a 5 0 1 noreply\r\nx\r\n")
	reads(t, "set a 0 0 007", verb(api.Set, "a"), 7)
}

// The commands of the ten examples of DOC.md, one behind the other.
func TestExamplesOfTheWhole(t *testing.T) {
	raw := strings.ReplaceAll("set a 5 0 1|x|get a|gets a|cas a 5 0 1 1|y|incr n 1|bogus|set a 0 0 3|abcd|set b 0 1 1|z|set a 0 0 300|"+many(300)+"|set c 0 0 1 noreply|q|get c|quit|get c|", "|", "\r\n")
	tells(t, raw, 140, 0,
		done(data(flags(verb(api.Set, "a"), 5), "x"), 16),
		done(verb(api.Get, "a"), 23),
		done(verb(api.Gets, "a"), 31),
		done(token(flags(data(verb(api.Cas, "a"), "y"), 5), 1), 49),
		done(delta(verb(api.Incr, "n"), 1), 59),
		fails(noVerb, 66),
		fails(client(badBlock, -1), 85),
		done(timed(data(verb(api.Set, "b"), "z"), 1), 101),
		done(large(verb(api.Set, "a")), 418),
		done(quiet(data(verb(api.Set, "c"), "q")), 442),
		done(verb(api.Get, "c"), 449),
		done(verb(api.Quit), 455))
}
