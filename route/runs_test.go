package route_test

import (
	"testing"

	"granary/api"
	"granary/ring"
	"granary/route"
)

// The chapter's run of many keys.
func TestRunOfManyKeys(t *testing.T) {
	w := two(t, 100, 0)
	w.feed(1, "get a b c|")
	w.sends(0, "get a c|", 1, "get b|")
	w.got(1, "VALUE b 0 1|x|END|")
	w.tells()
	w.got(0, "VALUE c 5 1|y|END|")
	w.tells(1, "VALUE b 0 1|x|VALUE c 5 1|y|END|")
}

// The chapter's run of a reply that waits for the one ahead of it.
func TestRunOfOrder(t *testing.T) {
	w := two(t, 100, 0)
	w.feed(1, "set a 0 0 1|x|")
	w.feed(1, "version|")
	w.tells()
	w.got(0, "STORED|")
	w.tells(1, "STORED|VERSION granary 1|")
}

// The chapter's runs of a server that is down, and comes up.
func TestRunsOfDown(t *testing.T) {
	w := two(t, 100, 0)
	w.feed(1, "get b|")
	w.down(1)
	w.tells(1, "END|")
	w.feed(1, "set b 0 0 1|x|")
	w.tells(1, isDown)
	w.sends()
	w.up(1)
	w.sends(1, "flush_all|")
	w.feed(1, "get b|")
	w.tells(1, "END|")
	w.got(1, "OK|")
	w.feed(1, "get b|")
	w.sends(1, "get b|")
}

// The chapter's run of bytes for which nobody has asked.
func TestRunOfBogus(t *testing.T) {
	w := two(t, 100, 0)
	w.got(0, "bogus|")
	w.feed(1, "set a 0 0 1|x|set b 0 0 1|x|")
	w.sends(1, "set b 0 0 1|x|")
	w.got(1, "STORED|")
	w.tells(1, isDown+"STORED|")
}

// The chapter's run of a command that waits too long.
func TestRunOfWait(t *testing.T) {
	w := two(t, 100, 5)
	w.feed(1, "get a|")
	w.tick(5)
	w.tells(1, "END|")
	w.feed(1, "delete a|")
	w.tells(1, isDown)
}

// The chapter's runs of flush_all.
func TestRunsOfFlush(t *testing.T) {
	w := two(t, 100, 0)
	w.feed(1, "flush_all|")
	w.sends(0, "flush_all|", 1, "flush_all|")
	w.got(0, "OK|")
	w.tells()
	w.got(1, "OK|")
	w.tells(1, "OK|")
	w.down(1)
	w.feed(1, "flush_all|")
	w.sends(0, "flush_all|")
	w.got(0, "OK|")
	w.tells(1, "OK|")
}

// The chapter's runs of blocks that are too large.
func TestRunsOfLarge(t *testing.T) {
	w := two(t, 8, 0)
	w.feed(1, "set a 0 0 9|123456789|")
	w.sends(0, "delete a|")
	w.tells()
	w.got(0, "NOT_FOUND|")
	w.tells(1, tooLarge)
	w.feed(1, "set a 0 0 9 noreply|123456789|version|")
	w.sends(0, "delete a|")
	w.tells(1, "VERSION granary 1|")
}

// The chapter's run of a quit.
func TestRunOfQuit(t *testing.T) {
	w := two(t, 8, 0)
	w.feed(1, "quit|get a|")
	w.sends()
	w.tells()
	w.is("Feed behind a quit", w.r.Feed(1, []byte("get a\r\n")), api.ErrConn)
}

// The chapter's runs of errors.
func TestRunsOfErrors(t *testing.T) {
	if x, e := route.New(ring.Ring{}, 8, 0); x != nil || e != api.ErrArg {
		t.Errorf("New of the empty ring is %v, %v", x, e)
	}
	w := two(t, 8, 0)
	w.close(1)
	w.is("Close", w.r.Close(1), api.ErrConn)
	w.is("Got", w.r.Got(2, []byte("END\r\n")), api.ErrServer)
	w.is("Tick", w.r.Tick(0), api.ErrArg)
}

// The chapter's examples.
func TestExamples(t *testing.T) {
	w := two(t, 8, 0)
	w.open(2)
	w.feed(1, "get a|")
	w.feed(2, "get a|")
	w.sends(0, "get a|get a|")
	w.got(0, "VALUE a 0 1|x|END|VALUE a 0 1|y|END|")
	w.tells(1, "VALUE a 0 1|x|END|", 2, "VALUE a 0 1|y|END|")

	w.feed(1, "get a")
	w.sends()
	w.feed(1, "|")
	w.sends(0, "get a|")
}
