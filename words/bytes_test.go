package words_test

import (
	"strings"
	"testing"

	"granary/api"
)

// everyVerb has a command of each verb that has nothing more than it must, as it is written down.
func everyVerb() map[string]api.Command {
	return map[string]api.Command{
		"get a\r\n":               verb(api.Get, "a"),
		"gets a\r\n":              verb(api.Gets, "a"),
		"gat 0 a\r\n":             verb(api.Gat, "a"),
		"gats 0 a\r\n":            verb(api.Gats, "a"),
		"set a 0 0 0\r\n\r\n":     verb(api.Set, "a"),
		"add a 0 0 0\r\n\r\n":     verb(api.Add, "a"),
		"replace a 0 0 0\r\n\r\n": verb(api.Replace, "a"),
		"append a 0 0 0\r\n\r\n":  verb(api.Append, "a"),
		"prepend a 0 0 0\r\n\r\n": verb(api.Prepend, "a"),
		"cas a 0 0 0 0\r\n\r\n":   verb(api.Cas, "a"),
		"delete a\r\n":            verb(api.Delete, "a"),
		"incr a 0\r\n":            verb(api.Incr, "a"),
		"decr a 0\r\n":            verb(api.Decr, "a"),
		"touch a 0\r\n":           verb(api.Touch, "a"),
		"flush_all\r\n":           verb(api.FlushAll),
		"version\r\n":             verb(api.Version),
		"verbosity 1\r\n":         verb(api.Verbosity),
		"quit\r\n":                verb(api.Quit),
		"stats\r\n":               verb(api.Stats),
		"mg a\r\n":                verb(api.MetaGet, "a"),
		"ms a 0\r\n\r\n":          verb(api.MetaSet, "a"),
		"md a\r\n":                verb(api.MetaDelete, "a"),
		"ma a\r\n":                verb(api.MetaArith, "a"),
		"mn\r\n":                  verb(api.MetaNoop),
	}
}

// uses are the fields that a verb uses, by the chapter's table.
func uses(verb int) string {
	switch verb {
	case api.Get, api.Gets:
		return "Keys"
	case api.Gat, api.Gats:
		return "Exptime Keys"
	case api.Set, api.Add, api.Replace, api.Append, api.Prepend:
		return "Keys Flags Exptime Data Noreply"
	case api.Cas:
		return "Keys Flags Exptime Data Noreply Token"
	case api.Delete:
		return "Keys Noreply"
	case api.Incr, api.Decr:
		return "Keys Delta Noreply"
	case api.Touch:
		return "Keys Exptime Noreply"
	case api.FlushAll:
		return "Exptime Noreply"
	case api.Verbosity:
		return "Noreply"
	case api.Stats:
		return "What"
	case api.MetaGet, api.MetaDelete, api.MetaArith:
		return "Keys Meta"
	case api.MetaSet:
		return "Keys Meta Data"
	}
	return ""
}

// P11.8, P11.9: every verb.
func TestWritten(t *testing.T) {
	if len(everyVerb()) != api.MetaNoop {
		t.Fatal("not every verb")
	}
	for must, c := range everyVerb() {
		writes(t, c, must)
	}
	for _, x := range []struct {
		c    api.Command
		must string
	}{
		{verb(api.Get, "a", "b", "a"), "get a b a\r\n"},
		{verb(api.Get, "noreply", "0", "get"), "get noreply 0 get\r\n"},
		{timed(verb(api.Gats, "a", "b"), least), "gats -9223372036854775808 a b\r\n"},
		{timed(verb(api.Gat, "5"), greatest), "gat 9223372036854775807 5\r\n"},
		{data(timed(flags(verb(api.Set, "a"), api.MaxFlags), -1), "x\r\ny\n"), "set a 4294967295 -1 5\r\nx\r\ny\n\r\n"},
		{quiet(token(data(verb(api.Cas, "noreply"), "\r\n"), api.MaxNumber)), "cas noreply 0 0 2 18446744073709551615 noreply\r\n\r\n\r\n"},
		{verb(api.Delete, "noreply"), "delete noreply\r\n"},
		{quiet(verb(api.Delete, "noreply")), "delete noreply noreply\r\n"},
		{quiet(delta(verb(api.Incr, "a"), api.MaxNumber)), "incr a 18446744073709551615 noreply\r\n"},
		{delta(verb(api.Decr, "\xff\x80"), 7), "decr \xff\x80 7\r\n"},
		{quiet(timed(verb(api.Touch, "a"), -5)), "touch a -5 noreply\r\n"},
		{timed(verb(api.FlushAll), 5), "flush_all 5\r\n"},
		{timed(verb(api.FlushAll), greatest), "flush_all 9223372036854775807\r\n"},
		{quiet(verb(api.FlushAll)), "flush_all noreply\r\n"},
		{quiet(timed(verb(api.FlushAll), 5)), "flush_all 5 noreply\r\n"},
		{quiet(verb(api.Verbosity)), "verbosity 1 noreply\r\n"},
		{what(verb(api.Stats), "reset"), "stats reset\r\n"},
		{meta(verb(api.MetaGet, "a"), "v", "T007", "Oab", "k"), "mg a v T007 Oab k\r\n"},
		{data(meta(verb(api.MetaSet, "noreply"), "Mr", "F0"), "hi"), "ms noreply 2 Mr F0\r\nhi\r\n"},
		{meta(verb(api.MetaDelete, "a"), "I", "T-00"), "md a I T-00\r\n"},
		{meta(verb(api.MetaArith, "a"), "Md", "N-9223372036854775808"), "ma a Md N-9223372036854775808\r\n"},
		{verb(api.Get, many(250)), "get " + many(250) + "\r\n"},
	} {
		writes(t, x.c, x.must)
	}
	noreplies(t)
}

// noreplies: noreply stands last where it may, and is refused elsewhere.
func noreplies(t *testing.T) {
	t.Helper()
	for must, c := range everyVerb() {
		if !strings.Contains(uses(c.Verb), "Noreply") {
			noForm(t, quiet(c))
			continue
		}
		writes(t, quiet(c), strings.Replace(must, "\r\n", " noreply\r\n", 1))
	}
}

// P11.8: a field that the verb does not use is not zero.
func TestUnused(t *testing.T) {
	for _, c := range everyVerb() {
		for field, other := range map[string]api.Command{
			"Flags": flags(c, 1), "Exptime": timed(c, 1), "Token": token(c, 1), "Delta": delta(c, 1),
			"Data": data(c, "x"), "Noreply": quiet(c), "What": what(c, "reset"), "Meta": meta(c, "q"),
		} {
			if !strings.Contains(uses(c.Verb), field) {
				noForm(t, other)
			}
		}
		if !strings.Contains(uses(c.Verb), "Exptime") {
			noForm(t, timed(c, -1))
		}
		noForm(t, large(c))
		noForm(t, large(data(c, "x")))
	}
}

// P11.8: keys that are too few, too many, or none.
func TestKeysOfForm(t *testing.T) {
	for _, c := range everyVerb() {
		with := func(keys ...string) api.Command { d := c; d.Keys = keys; return d }
		if !strings.Contains(uses(c.Verb), "Keys") {
			noForm(t, with("a"))
			noForm(t, with(""))
			noForm(t, with("reset"))
			noForm(t, with("noreply"))
			noForm(t, with("5"))
			continue
		}
		noForm(t, with())
		if c.Verb > api.Gats { // those up to it have any number of keys
			for _, more := range []string{"b", "0", "noreply", "k", "q", "5", ""} {
				noForm(t, with("a", more))
			}
		}
		for _, key := range []string{"", " ", "a b", " a", "a ", "a 0", "a 0 0 0", "a noreply", "a k", "a\r", "a\n", "\r\n", "a\r\nquit", "\x00", "\t", "\x7f", "a\x1f", many(251), many(5000)} {
			noForm(t, with(key))
			noForm(t, with("a", key))
			noForm(t, with(key, "a"))
		}
	}
}

// P11.8: numbers and words that no line tells.
func TestFormOfParts(t *testing.T) {
	for _, v := range []int{api.Set, api.Add, api.Replace, api.Append, api.Prepend, api.Cas} {
		noForm(t, flags(verb(v, "a"), api.MaxFlags+1))
		noForm(t, flags(verb(v, "a"), api.MaxNumber))
	}
	noForm(t, timed(verb(api.FlushAll), -1))
	noForm(t, timed(verb(api.FlushAll), least))
	noForm(t, quiet(timed(verb(api.FlushAll), -1)))
	for _, w := range []string{"items", "RESET", "reset ", " reset", "reset\r\n", "x", " ", "noreply", "\n"} {
		noForm(t, what(verb(api.Stats), w))
	}
	for _, v := range []int{least, -1, 0, 25, 26, greatest} {
		noForm(t, api.Command{Verb: v})
		noForm(t, verb(v, "a"))
	}
}

// P11.8: flags that Flags refuses, and flags that no word is.
func TestFormOfFlags(t *testing.T) {
	for _, v := range []int{api.MetaGet, api.MetaSet, api.MetaDelete, api.MetaArith} {
		for _, l := range [][]api.Flag{
			{full('k', "")}, {{Letter: 'k', Arg: "x"}}, {full('k', "x")}, {full('k', " q")}, {{Letter: 'k', Arg: " q"}},
			{bare('k'), bare('k')}, {bare('z')}, {bare(' ')}, {full(' ', "k")}, {{Letter: ' ', Arg: "k"}}, {bare(0)}, {bare(10)}, {bare(13)}, {bare(255)},
			{bare('T')}, {full('T', "")}, {full('T', "x")}, {{Letter: 'T', Arg: "5"}}, {full('T', "5 k")}, {full('T', "5\r")}, {full('T', "5\r\n")},
			{bare('O')}, {full('O', "")}, {full('O', strings.Repeat("o", 33))}, {full('O', "a b")}, {full('O', "a k")}, {full('O', "\n")}, {{Letter: 'O', Arg: "x"}},
		} {
			c := verb(v, "a")
			c.Meta = l
			noForm(t, c)
		}
	}
	noForm(t, meta(verb(api.MetaGet, "a"), "J5"))
	noForm(t, meta(verb(api.MetaSet, "a"), "MI"))
	noForm(t, meta(verb(api.MetaArith, "a"), "MS"))
}

// P11.8: lines of MaxLine bytes and one more.
func TestFormOfLength(t *testing.T) {
	keys := strings.Fields(strings.Repeat("k ", 1021))
	writes(t, verb(api.Get, append(keys, "kk")...), "get "+strings.Repeat("k ", 1021)+"kk\r\n")
	noForm(t, verb(api.Get, append(keys, "kkk")...))
	noForm(t, verb(api.Get, append(keys, "k", "k")...))
	noForm(t, verb(api.Get, strings.Fields(strings.Repeat("k ", 100000))...))
	arg := strings.Repeat("0", 2042)
	writes(t, meta(verb(api.MetaGet, "a"), "T"+arg), "mg a T"+arg+"\r\n")
	noForm(t, meta(verb(api.MetaGet, "a"), "T0"+arg))
	block := strings.Repeat("x", 5000)
	writes(t, data(verb(api.Set, "a"), block), "set a 0 0 5000\r\n"+block+"\r\n")
}
