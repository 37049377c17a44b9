package client_test

import (
	"strings"
	"testing"

	"granary/api"
	"granary/client"
	"granary/words"
)

// P20.1: a new client has a stream, and nothing waits.
func TestNew(t *testing.T) {
	for _, wait := range []int{least, -1, 0, 1, 5, greatest} {
		c := client.New(wait)
		stands(t, c, 0, true)
		busy(t, c)
		ticks(t, c, 7)
		ends(t, c.Take(nil))
		stands(t, c, 0, true)
		sends(t, c, get("a"), 1, "get a|")
		stands(t, c, 1, true)
	}
}

// P20.2: numbers rise by one, whatever is sent, and what is refused has none.
func TestNumbers(t *testing.T) {
	c := client.New(0)
	n := 0
	for _, s := range samples() {
		n++
		sends(t, c, s.m, n, s.text)
		refuses(t, c, get(), api.ErrForm)
		if s.m.Verb == api.Set {
			n++
			sends(t, c, quiet(set("a")), n, "set a 0 0 1 noreply|x|")
		}
	}
	c.Close()
	refuses(t, c, get("a"), api.ErrClosed)
	c.Reopen()
	n++
	sends(t, c, cmd(api.Quit), n, "quit|")
	refuses(t, c, get("a"), api.ErrClosed)
	c.Close()
	c.Reopen()
	sends(t, c, get("a"), n+1, "get a|")
}

// P20.2: what words.Bytes refuses is refused.
func TestForm(t *testing.T) {
	c := client.New(0)
	large := set("a")
	large.Large = true
	for _, m := range []api.Command{
		{}, cmd(-1), cmd(verbs + 1), cmd(least), cmd(greatest),
		get(), get(""), get("a", ""), get("a b"), get("a\r\n"), get(strings.Repeat("k", 251)), get(strings.Split(strings.Repeat("k", 1023), "")...), quiet(get("a")), data(get("a"), "x"),
		cmd(api.Set), cmd(api.Set, "a", "b"), large, flagged(set("a"), "v"),
		{Verb: api.Set, Keys: []string{"a"}, Flags: api.MaxFlags + 1},
		{Verb: api.FlushAll, Exptime: -1}, cmd(api.FlushAll, "a"),
		cmd(api.Version, "a"), quiet(cmd(api.Version)), what("items"), quiet(what("")), quiet(cmd(api.Quit)), cmd(api.Quit, "a"),
		cmd(api.MetaGet), quiet(cmd(api.MetaGet, "a")), flagged(cmd(api.MetaGet, "a"), "vv"), flagged(cmd(api.MetaGet, "a"), "z"), cmd(api.MetaNoop, "a"),
	} {
		if _, e := words.Bytes(m); e != api.ErrForm {
			t.Fatalf("words.Bytes takes %v", m)
		}
		refuses(t, c, m, api.ErrForm)
		stands(t, c, 0, true)
	}
	sends(t, c, get("a"), 1, "get a|")
}

// P20.2: a meta command that may be told nothing is refused, wherever the flag stands; others are not.
func TestQuietFlag(t *testing.T) {
	c := client.New(0)
	for _, m := range []api.Command{cmd(api.MetaGet, "a"), data(cmd(api.MetaSet, "a"), "x"), cmd(api.MetaDelete, "a"), cmd(api.MetaArith, "a")} {
		for _, letters := range []string{"q", "kq", "qk", "kqc"} {
			if _, e := words.Bytes(flagged(m, letters)); e != api.OK {
				t.Fatalf("verb %d, flags %q: %v", m.Verb, letters, e)
			}
			refuses(t, c, flagged(m, letters), api.ErrForm)
		}
	}
	stands(t, c, 0, true)
	opaque := cmd(api.MetaGet, "a")
	opaque.Meta = []api.Flag{{Letter: 'O', Arg: "q", Has: true}}
	sends(t, c, opaque, 1, "mg a Oq|")
	sends(t, c, cmd(api.MetaGet, "q"), 2, "mg q|")
	sends(t, c, flagged(cmd(api.MetaGet, "a"), "kvc"), 3, "mg a k v c|")
}

// fill sends gets until the row is full.
func fill(t *testing.T, c *client.Client) {
	t.Helper()
	for c.Flying() < 1024 {
		sent(t, c, get("a"))
	}
}

// P20.2: a full row takes nothing, not even what would not stand in it; a reply makes room for one.
func TestBusy(t *testing.T) {
	c := client.New(0)
	fill(t, c)
	for _, m := range []api.Command{get("b"), set("a"), quiet(set("a")), cmd(api.Quit), cmd(api.MetaNoop)} {
		refuses(t, c, m, api.ErrBusy)
	}
	stands(t, c, 1024, true)
	takes(t, c, "END|", miss(1))
	stands(t, c, 1023, true)
	sends(t, c, quiet(set("a")), 1025, "set a 0 0 1 noreply|x|")
	sends(t, c, set("a"), 1026, "set a 0 0 1|x|")
	refuses(t, c, get("b"), api.ErrBusy)
	takes(t, c, "END|", miss(2))
	sends(t, c, cmd(api.Quit), 1027, "quit|")
	stands(t, c, 1023, false)
}

// P20.2: what has timed out has its place in the row, until its reply has passed.
func TestBusyOver(t *testing.T) {
	c := client.New(1)
	fill(t, c)
	c.Tick(1)
	stands(t, c, 1024, true)
	refuses(t, c, get("b"), api.ErrBusy)
	takes(t, c, "END|END|")
	stands(t, c, 1022, true)
	sends(t, c, get("b"), 1025, "get b|")
	sends(t, c, get("b"), 1026, "get b|")
	refuses(t, c, get("b"), api.ErrBusy)
}

// P20.2, P20.6: what was kept fills the row again.
func TestBusyKept(t *testing.T) {
	c := client.New(0)
	fill(t, c)
	ends(t, c.Close())
	stands(t, c, 0, false)
	reopens(t, c, strings.Repeat("get a|", 1024))
	stands(t, c, 1024, true)
	refuses(t, c, get("b"), api.ErrBusy)
	takes(t, c, "END|", miss(1))
	sends(t, c, get("b"), 1025, "get b|")
}

// P20.2, R3: the first error that applies is told.
func TestOrderOfErrors(t *testing.T) {
	c := client.New(0)
	fill(t, c)
	refuses(t, c, get(), api.ErrForm)
	refuses(t, c, flagged(cmd(api.MetaGet, "a"), "q"), api.ErrForm)
	takes(t, c, "END|", miss(1))
	sends(t, c, cmd(api.Quit), 1025, "quit|")
	refuses(t, c, get(), api.ErrClosed)
	refuses(t, c, cmd(api.Quit), api.ErrClosed)
	c.Close()
	refuses(t, c, get(), api.ErrClosed)
	refuses(t, c, get("a"), api.ErrClosed)

	full := client.New(1)
	for range 1023 {
		sent(t, full, get("a"))
	}
	sent(t, full, cmd(api.Quit))
	refuses(t, full, get(), api.ErrClosed)
}

// P20.2: a quit, and what has Noreply, wait for nothing, and end with nothing.
func TestWaitsForNothing(t *testing.T) {
	for _, m := range []api.Command{quiet(set("a")), quiet(cmd(api.Delete, "a")), quiet(cmd(api.FlushAll)), quiet(cmd(api.Verbosity)), quiet(api.Command{Verb: api.Incr, Keys: []string{"a"}, Delta: 1}), cmd(api.Quit)} {
		live := m.Verb != api.Quit
		c := client.New(1)
		sent(t, c, m)
		stands(t, c, 0, live)
		ticks(t, c, 9)
		ends(t, c.Close())
		reopens(t, c, "")
		sent(t, c, m)
		takes(t, c, "STORED|")
		stands(t, c, 0, false)
		reopens(t, c, "")
		stands(t, c, 0, true)
	}
}
