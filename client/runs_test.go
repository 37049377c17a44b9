package client_test

import (
	"testing"

	"granary/api"
	"granary/client"
)

// The chapter's runs of waiting.
func TestRunsOfWaiting(t *testing.T) {
	c := client.New(5)
	sends(t, c, get("a"), 1, "get a|")
	ticks(t, c, 5, late(1))
	sends(t, c, get("b"), 2, "get b|")
	takes(t, c, "VALUE a 0 1|x|END|VALUE b 0 1|y|END|", ok(2, values(entry("b", "y"))))

	ticks(t, client.New(5), -5)
	c = client.New(3)
	sends(t, c, get("a"), 1, "get a|")
	ends(t, c.Close())
	ticks(t, c, 3, late(1))
	reopens(t, c, "")
}

// The chapter's run of a value that looks like a reply's end.
func TestRunOfSingleBytes(t *testing.T) {
	c := client.New(0)
	sends(t, c, get("a"), 1, "get a|")
	raw := lines("VALUE a 0 5|END||END|")
	for i := range len(raw) - 1 {
		takes(t, c, raw[i:i+1])
	}
	takes(t, c, raw[len(raw)-1:], ok(1, values(entry("a", "END\r\n"))))
}

// The chapter's run of a command that waits for nothing.
func TestRunOfNoreply(t *testing.T) {
	c := client.New(0)
	sends(t, c, quiet(set("a")), 1, "set a 0 0 1 noreply|x|")
	sends(t, c, get("a"), 2, "get a|")
	takes(t, c, "VALUE a 0 1|x|END|", ok(2, values(entry("a", "x"))))
}

// The chapter's runs of garbled streams.
func TestRunsOfGarbled(t *testing.T) {
	c := client.New(0)
	takes(t, c, "STORED|")
	stands(t, c, 0, false)
	refuses(t, c, get("a"), api.ErrClosed)

	c = client.New(0)
	sends(t, c, get("a"), 1, "get a|")
	takes(t, c, "END|END|", miss(1))
	stands(t, c, 0, false)
}

// The chapter's runs of closings.
func TestRunsOfClose(t *testing.T) {
	c := client.New(0)
	sends(t, c, get("a"), 1, "get a|")
	sends(t, c, set("b"), 2, "set b 0 0 1|x|")
	ends(t, c.Close(), closed(2))
	reopens(t, c, "get a|")

	c = client.New(0)
	sends(t, c, get("a"), 1, "get a|")
	ends(t, c.Close())
	reopens(t, c, "get a|")
	ends(t, c.Close(), closed(1))

	c = client.New(0)
	sends(t, c, cmd(api.MetaGet, "a"), 1, "mg a|")
	ends(t, c.Close(), closed(1))
}

// The chapter's runs of quit.
func TestRunsOfQuit(t *testing.T) {
	c := client.New(0)
	sends(t, c, get("a"), 1, "get a|")
	sends(t, c, cmd(api.Quit), 2, "quit|")
	refuses(t, c, get("a"), api.ErrClosed)
	takes(t, c, "END|", miss(1))
	stands(t, c, 0, false)

	c = client.New(0)
	sends(t, c, get("a"), 1, "get a|")
	sends(t, c, cmd(api.Quit), 2, "quit|")
	busy(t, c)
	ends(t, c.Close())
	reopens(t, c, "get a|")
}

// The chapter's runs of refusals.
func TestRunsOfRefusals(t *testing.T) {
	c := client.New(0)
	refuses(t, c, flagged(cmd(api.MetaGet, "a"), "q"), api.ErrForm)
	refuses(t, c, get(), api.ErrForm)
	for i := range 1024 {
		sends(t, c, get("a"), i+1, "get a|")
	}
	refuses(t, c, get("a"), api.ErrBusy)
	refuses(t, c, quiet(set("a")), api.ErrBusy)

	c = client.New(1)
	for i := range 1024 {
		sends(t, c, get("a"), i+1, "get a|")
	}
	if l := c.Tick(1); len(l) != 1024 {
		t.Errorf("%d of 1024 have timed out", len(l))
	}
	refuses(t, c, get("a"), api.ErrBusy)
}

// The chapter's examples.
func TestExamples(t *testing.T) {
	c := client.New(0)
	sends(t, c, get("a"), 1, "get a|")
	takes(t, c, "END|", api.Done{Seq: 1, Err: api.OK, Answer: api.Answer{Kind: api.Values}})

	c = client.New(5)
	sends(t, c, get("a"), 1, "get a|")
	ticks(t, c, 4)
	ticks(t, c, 1, late(1))
	stands(t, c, 1, true)
	takes(t, c, "EN")
	takes(t, c, "D|")
	stands(t, c, 0, true)

	c = client.New(0)
	sends(t, c, get("a"), 1, "get a|")
	for _, by := range []int{0, 1, 1 << 40, greatest, greatest} {
		ticks(t, c, by)
	}
	takes(t, c, "END|", miss(1))
}
