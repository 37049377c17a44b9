package client_test

import (
	"testing"

	"granary/api"
	"granary/client"
)

// P20.4: a command ends when it was sent wait ticks ago, neither earlier nor twice.
func TestWait(t *testing.T) {
	for _, wait := range []int{1, 2, 5, 1 << 40, greatest - 1, greatest} {
		c := client.New(wait)
		sent(t, c, get("a"))
		ticks(t, c, 0)
		ticks(t, c, wait-1)
		ticks(t, c, 0)
		stands(t, c, 1, true)
		ticks(t, c, 1, late(1))
		ticks(t, c, 0)
		ticks(t, c, wait)
		stands(t, c, 1, true)
		takes(t, c, "END|")
		stands(t, c, 0, true)

		c = client.New(wait)
		sent(t, c, get("a"))
		ticks(t, c, greatest, late(1))
	}
}

// P20.1, P20.4: with a wait below 1 no tick ends anything, of the row or kept.
func TestNoWait(t *testing.T) {
	for _, wait := range []int{0, -1, -5, least} {
		c := client.New(wait)
		sent(t, c, get("a"))
		sent(t, c, set("a"))
		for _, by := range []int{0, 1, 5, greatest, 1, least} {
			ticks(t, c, by)
		}
		ends(t, c.Close(), closed(2))
		ticks(t, c, greatest)
		reopens(t, c, "get a|")
		ticks(t, c, greatest)
		takes(t, c, "END|", miss(1))
	}
}

// P20.4: a by below 0 counts as 0.
func TestNoTick(t *testing.T) {
	c := client.New(2)
	sent(t, c, get("a"))
	for _, by := range []int{-1, -5, least, 0} {
		ticks(t, c, by)
	}
	ticks(t, c, 1)
	ticks(t, c, least)
	ticks(t, c, -1)
	ticks(t, c, 1, late(1))
}

// P20.4: the clock stands still at its end: what is sent there waits for ever.
func TestClockEnd(t *testing.T) {
	c := client.New(1)
	ticks(t, c, greatest-1)
	sent(t, c, get("a"))
	ticks(t, c, greatest, late(1))
	sent(t, c, get("b"))
	for _, by := range []int{1, greatest, 5} {
		ticks(t, c, by)
	}
	stands(t, c, 2, true)
	takes(t, c, "END|VALUE b 0 1|x|END|", ok(2, values(entry("b", "x"))))

	c = client.New(greatest)
	ticks(t, c, 1)
	sent(t, c, get("a"))
	ticks(t, c, greatest)
	ticks(t, c, greatest)
	takes(t, c, "END|", miss(1))

	c = client.New(5)
	ticks(t, c, greatest-5)
	sent(t, c, get("a"))
	ticks(t, c, 4)
	ticks(t, c, 9, late(1))
}

// P20.4: each command has its own time, and the ends are told by their numbers.
func TestEachItsTime(t *testing.T) {
	c := client.New(10)
	sent(t, c, get("a"))
	sent(t, c, set("a"))
	ticks(t, c, 3)
	sent(t, c, cmd(api.MetaGet, "a"))
	sent(t, c, quiet(set("a")))
	ticks(t, c, 3)
	sent(t, c, what(""))
	ticks(t, c, 4, late(1), late(2))
	ticks(t, c, 2)
	stands(t, c, 4, true)
	sent(t, c, cmd(api.Version))
	ticks(t, c, 4, late(3), late(5))
	stands(t, c, 5, true)
	takes(t, c, "END|STORED|EN|STAT a 1|END|VERSION x|", ok(6, api.Answer{Kind: api.Told, Text: "x"}))
	stands(t, c, 0, true)
}

// P20.4: what was answered does not time out.
func TestAnswered(t *testing.T) {
	c := client.New(5)
	sent(t, c, get("a"))
	sent(t, c, get("b"))
	ticks(t, c, 4)
	takes(t, c, "END|", miss(1))
	ticks(t, c, 1, late(2))
	takes(t, c, "END|")
	ticks(t, c, 9)
	stands(t, c, 0, true)
}

// P20.4: a kept one that times out is gone; those behind it stay.
func TestKeptTimesOut(t *testing.T) {
	c := client.New(5)
	sent(t, c, get("a"))
	ticks(t, c, 2)
	sent(t, c, get("b"))
	sent(t, c, get("c"))
	ticks(t, c, 1)
	sent(t, c, set("d"))
	sent(t, c, cmd(api.Version))
	ends(t, c.Close(), closed(4))
	ticks(t, c, 1)
	ticks(t, c, 1, late(1))
	stands(t, c, 0, false)
	ticks(t, c, 1)
	ticks(t, c, 1, late(2), late(3))
	ticks(t, c, 0)
	reopens(t, c, "version|")
	stands(t, c, 1, true)
	ticks(t, c, 1, late(5))
	takes(t, c, "VERSION x|")
	stands(t, c, 0, true)
}

// P20.6: behind a Reopen the wait goes on from the first time.
func TestWaitGoesOn(t *testing.T) {
	c := client.New(5)
	ticks(t, c, 100)
	sent(t, c, get("a"))
	ticks(t, c, 3)
	ends(t, c.Close())
	ticks(t, c, 1)
	reopens(t, c, "get a|")
	sent(t, c, get("b"))
	ticks(t, c, 1, late(1))
	ticks(t, c, 3)
	ticks(t, c, 1, late(2))
	stands(t, c, 2, true)
}

// P20.8: behind a quit the row times out as ever.
func TestQuitTimesOut(t *testing.T) {
	c := client.New(5)
	sent(t, c, get("a"))
	sent(t, c, get("b"))
	sent(t, c, cmd(api.Quit))
	takes(t, c, "END|", miss(1))
	ticks(t, c, 5, late(2))
	stands(t, c, 1, false)
	takes(t, c, "END|")
	stands(t, c, 0, false)
	ends(t, c.Close())
	reopens(t, c, "")
}
