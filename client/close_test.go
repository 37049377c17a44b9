package client_test

import (
	"testing"

	"granary/api"
	"granary/client"
)

// P20.5: of every verb: is it kept, or does it end? With a second stream, and with a third.
func TestCloseEveryVerb(t *testing.T) {
	for _, s := range samples() {
		c := client.New(0)
		sent(t, c, s.m)
		if !s.reads {
			ends(t, c.Close(), closed(1))
			stands(t, c, 0, false)
			reopens(t, c, "")
			stands(t, c, 0, true)
			continue
		}
		ends(t, c.Close())
		stands(t, c, 0, false)
		reopens(t, c, s.text)
		stands(t, c, 1, true)
		ends(t, c.Close(), closed(1))
		reopens(t, c, "")
		stands(t, c, 0, true)
		sends(t, c, s.m, 2, s.text)
		ends(t, c.Close())
		reopens(t, c, s.text)
		takes(t, c, bytesOf(t, s.m, s.answers[0]), ok(2, s.answers[0]))
	}
}

// P20.5, P20.6: all of them in one row: the ends and the kept ones in their order.
func TestCloseAll(t *testing.T) {
	c := client.New(0)
	var gone, answered []api.Done
	var again, replies string
	for _, s := range samples() {
		n := sent(t, c, s.m)
		if !s.reads {
			gone = append(gone, closed(n))
			continue
		}
		again += s.text
		answered = append(answered, ok(n, s.answers[1]))
		replies += bytesOf(t, s.m, s.answers[1])
	}
	ends(t, c.Close(), gone...)
	reopens(t, c, again)
	stands(t, c, len(answered), true)
	n := sent(t, c, set("a"))
	takes(t, c, replies+"STORED|", append(answered, ok(n, kind(api.Stored)))...)
	stands(t, c, 0, true)
}

// P20.5: one that is over goes, and is not told again, whether it only reads or not.
func TestCloseOver(t *testing.T) {
	c := client.New(5)
	sent(t, c, get("a"))
	sent(t, c, set("a"))
	ticks(t, c, 1)
	sent(t, c, get("b"))
	sent(t, c, set("b"))
	ticks(t, c, 4, late(1), late(2))
	ends(t, c.Close(), closed(4))
	reopens(t, c, "get b|")
	takes(t, c, "VALUE b 0 1|x|END|", ok(3, values(entry("b", "x"))))
	stands(t, c, 0, true)
}

// P20.5: the bytes that are left are forgotten with the stream.
func TestCloseForgets(t *testing.T) {
	c := client.New(0)
	sent(t, c, get("a"))
	takes(t, c, "VALUE a 0 5|END|")
	ends(t, c.Close())
	reopens(t, c, "get a|")
	takes(t, c, "VALUE a 0 1|x|END|", ok(1, values(entry("a", "x"))))
	sent(t, c, set("a"))
	takes(t, c, "STO")
	ends(t, c.Close(), closed(2))
	reopens(t, c, "")
	sent(t, c, set("a"))
	takes(t, c, "STORED|", ok(3, kind(api.Stored)))
	stands(t, c, 0, true)
}

// P20.5: without a stream a Close does nothing, to the kept ones neither.
func TestCloseTwice(t *testing.T) {
	c := client.New(0)
	sent(t, c, get("a"))
	ends(t, c.Close())
	ends(t, c.Close())
	ends(t, c.Close())
	reopens(t, c, "get a|")
	takes(t, c, "bogus", garbled(1))
	ends(t, c.Close())
	reopens(t, c, "")
}

// P20.6: a Reopen begins no stream while there is one, and changes nothing then.
func TestReopenBusy(t *testing.T) {
	c := client.New(5)
	busy(t, c)
	sent(t, c, get("a"))
	takes(t, c, "EN")
	busy(t, c)
	stands(t, c, 1, true)
	takes(t, c, "D|", miss(1))
	sent(t, c, get("b"))
	sent(t, c, cmd(api.Quit))
	busy(t, c)
	stands(t, c, 1, false)
	refuses(t, c, get("a"), api.ErrClosed)
	takes(t, c, "END|", miss(2))
	busy(t, c)
	stands(t, c, 0, false)
	ends(t, c.Close())
	reopens(t, c, "")
	busy(t, c)
	stands(t, c, 0, true)
}

// P20.6: kept ones stand ahead of what is sent behind the Reopen; at the next Close they end, and the new ones are kept.
func TestKeptAhead(t *testing.T) {
	c := client.New(0)
	sent(t, c, get("a"))
	sent(t, c, cmd(api.Gets, "b"))
	ends(t, c.Close())
	reopens(t, c, "get a|gets b|")
	sent(t, c, get("c"))
	sent(t, c, what(""))
	ends(t, c.Close(), closed(1), closed(2))
	reopens(t, c, "get c|stats|")
	sent(t, c, cmd(api.Version))
	takes(t, c, "VALUE c 0 1|x|END|END|", ok(3, values(entry("c", "x"))), ok(4, kind(api.Stat)))
	ends(t, c.Close())
	reopens(t, c, "version|")
	takes(t, c, "VERSION x|", ok(5, api.Answer{Kind: api.Told, Text: "x"}))
}

// P20.7: Flying counts the row alone: what is over in it too, what is kept not; Live says whether commands are taken.
func TestFlyingAndLive(t *testing.T) {
	c := client.New(5)
	stands(t, c, 0, true)
	sent(t, c, get("a"))
	sent(t, c, quiet(set("a")))
	stands(t, c, 1, true)
	sent(t, c, get("b"))
	stands(t, c, 2, true)
	ticks(t, c, 5, late(1), late(3))
	stands(t, c, 2, true)
	takes(t, c, "END|")
	stands(t, c, 1, true)
	sent(t, c, get("c"))
	stands(t, c, 2, true)
	ends(t, c.Close())
	stands(t, c, 0, false)
	reopens(t, c, "get c|")
	stands(t, c, 1, true)
	sent(t, c, cmd(api.Quit))
	stands(t, c, 1, false)
	ends(t, c.Close(), closed(4))
	stands(t, c, 0, false)
	reopens(t, c, "")
	stands(t, c, 0, true)
}

// P20.8: behind a quit the row goes on: replies pass, a wrong byte garbles, a Close keeps what only reads.
func TestQuit(t *testing.T) {
	begun := func() *client.Client {
		c := client.New(0)
		sent(t, c, get("a"))
		sent(t, c, set("b"))
		sent(t, c, cmd(api.Quit))
		stands(t, c, 2, false)
		refuses(t, c, get("a"), api.ErrClosed)
		refuses(t, c, quiet(set("a")), api.ErrClosed)
		return c
	}
	c := begun()
	takes(t, c, "EN")
	takes(t, c, "D|STORED|", miss(1), ok(2, kind(api.Stored)))
	stands(t, c, 0, false)
	busy(t, c)
	// Bytes behind the last reply: the stream is gone now, so that another one may begin.
	takes(t, c, "x")
	reopens(t, c, "")
	stands(t, c, 0, true)
	sends(t, c, get("a"), 4, "get a|")

	c = begun()
	takes(t, c, "END|bogus", miss(1), garbled(2))
	reopens(t, c, "")
	stands(t, c, 0, true)

	c = begun()
	ends(t, c.Close(), closed(2))
	reopens(t, c, "get a|")
	stands(t, c, 1, true)
	sends(t, c, get("c"), 4, "get c|")
	takes(t, c, "END|END|", miss(1), miss(4))
}
