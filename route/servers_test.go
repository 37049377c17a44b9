package route_test

import (
	"strings"
	"testing"

	"granary/api"
)

// P21.8 to P21.10: of a number that is no server's nothing is done.
func TestNoSuchServer(t *testing.T) {
	w := two(t, 8, 0)
	w.feed(1, "get a b|")
	for _, n := range []int{2, -1, -1 << 63, 1<<63 - 1} {
		w.is("Got", w.r.Got(n, []byte("END\r\n")), api.ErrServer)
		w.is("Got", w.r.Got(n, nil), api.ErrServer)
		w.is("Down", w.r.Down(n), api.ErrServer)
		w.is("Up", w.r.Up(n), api.ErrServer)
	}
	w.sends(0, "get a|", 1, "get b|")
	w.got(0, "END|")
	w.got(1, "END|")
	w.tells(1, "END|")
}

// P21.8: bytes that are no reply, at any place, put the server down: what was whole ahead of them is answered, what is behind is not.
func TestGarbled(t *testing.T) {
	for _, bad := range []string{"x", "STORED|", "|", "VALUE b", "END|x"} {
		w := two(t, 8, 0)
		w.feed(1, "get c|get a|get a|delete a|")
		w.sends(0, "get c|get a|get a|delete a|")
		w.got(0, "VALUE c 0 1|y|END|VALUE a 0 1|x|END|")
		w.got(0, bad)
		w.tells(1, "VALUE c 0 1|y|END|VALUE a 0 1|x|END|END|"+isDown)
		w.feed(1, "touch a 1|get b|")
		w.sends(1, "get b|")
		w.got(1, "END|")
		w.tells(1, isDown+"END|")
	}
}

// P21.8: a reply, and bytes that nobody has asked for behind it.
func TestTooMuch(t *testing.T) {
	w := two(t, 8, 0)
	w.feed(1, "get a|")
	w.got(0, "VALUE a 0 1|x|END|END|")
	w.tells(1, "VALUE a 0 1|x|END|")
	w.feed(1, "delete a|")
	w.tells(1, isDown)
}

// P21.8: of a server that is down nothing is done, whatever comes of it; behind its coming up nothing of that is left.
func TestGotOfDown(t *testing.T) {
	w := two(t, 8, 0)
	w.feed(1, "get a|")
	w.got(0, "VALUE a 0 1|x|EN")
	w.down(0)
	w.got(0, "D|END|bogus|")
	w.tells(1, "END|")
	w.feed(1, "get a|")
	w.got(0, "VALUE a 0 1|x|END|")
	w.tells(1, "END|")
	w.back(0)
	w.feed(1, "get a|")
	w.got(0, "VALUE a 0 1|z|END|")
	w.tells(1, "VALUE a 0 1|z|END|")
}

// P21.9: what flies has ended, what is to go out is forgotten, and only of that server.
func TestDown(t *testing.T) {
	w := two(t, 8, 0)
	w.feed(1, "get a|set a 0 0 1|x|")
	w.sends(0, "get a|set a 0 0 1|x|")
	w.feed(1, "get a b|delete b|mg a v|delete a noreply|set c 0 0 9|123456789|")
	w.down(0)
	w.sends(1, "get b|delete b|")
	w.tells(1, "END|"+isDown)
	w.down(0)
	w.got(1, "VALUE b 0 1|x|END|DELETED|")
	w.tells(1, "VALUE b 0 1|x|END|DELETED|EN|"+isDown)
	w.back(0)
	w.sends()
}

// P21.10: of one that is up or coming nothing is done; a coming one takes no command.
func TestUp(t *testing.T) {
	w := two(t, 8, 0)
	w.feed(1, "get a|")
	w.up(0)
	w.sends(0, "get a|")
	w.got(0, "VALUE a 0 1|x|END|")
	w.tells(1, "VALUE a 0 1|x|END|")
	w.down(0)
	w.up(0)
	w.up(0)
	w.sends(0, "flush_all|")
	w.up(0)
	w.sends()
	w.feed(1, "get a|delete a|delete a noreply|")
	w.sends()
	w.tells(1, "END|"+isDown)
	w.got(0, "O")
	w.feed(1, "get a|")
	w.tells(1, "END|")
	w.got(0, "K|")
	w.up(0)
	w.feed(1, "get a|")
	w.sends(0, "get a|")
	w.got(0, "END|")
	w.tells(1, "END|")
}

// P21.10: a coming server whose flush ends otherwise goes down: refused, garbled, too late, with bytes behind it, or if it is said to be down.
func TestUpFails(t *testing.T) {
	w := two(t, 8, 5)
	w.down(0)
	for _, fall := range []func(){func() { w.got(0, "ERROR|") }, func() { w.got(0, "SERVER_ERROR x|") }, func() { w.got(0, "END|") }, func() { w.got(0, "OK|OK|") }, func() { w.got(0, "ERROR|OK|") }, func() { w.tick(5) }, func() { w.tick(1 << 40) }, func() { w.down(0) }} {
		w.up(0)
		w.sends(0, "flush_all|")
		fall()
		w.got(0, "OK|")
		w.feed(1, "delete a|")
		w.sends()
		w.tells(1, isDown)
		w.tick(9)
		w.up(0)
		w.sends(0, "flush_all|") // it was down: else nothing were sent
		w.down(0)
	}
	w.back(0)
	w.feed(1, "get a|")
	w.sends(0, "get a|")
}

// P21.9, P21.10: a flush that has not gone out is forgotten, too.
func TestUpDownUp(t *testing.T) {
	w := two(t, 8, 0)
	w.down(0)
	w.up(0)
	w.down(0)
	w.sends()
	w.up(0)
	w.down(0)
	w.up(0)
	w.sends(0, "flush_all|")
	w.got(0, "OK|")
	w.feed(1, "get a|")
	w.sends(0, "get a|")
}

// P21.11: a Tick below 1 is refused, and no time goes by.
func TestTickRefused(t *testing.T) {
	w := two(t, 8, 5)
	w.feed(1, "get a|")
	w.tick(4)
	for _, n := range []int{0, -1, -5, -1 << 63} {
		w.is("Tick", w.r.Tick(n), api.ErrArg)
	}
	w.tells()
	w.tick(1)
	w.tells(1, "END|")
}

// P21.11: a server of which a command is too late goes down, with all that flies; others go on.
func TestTick(t *testing.T) {
	w := two(t, 8, 5)
	w.feed(1, "get a|")
	w.tick(3)
	w.feed(1, "set a 0 0 1|x|get b|")
	w.sends(0, "get a|set a 0 0 1|x|", 1, "get b|")
	w.tick(1)
	w.tells()
	w.tick(1)
	w.tells(1, "END|"+isDown)
	w.got(1, "VALUE b 0 1|x|END|")
	w.tells(1, "VALUE b 0 1|x|END|")
	w.got(0, "END|STORED|")
	w.tick(100)
	w.feed(1, "get b|get a|")
	w.sends(1, "get b|")
	w.got(1, "END|")
	w.tells(1, "END|END|")
}

// P21.11: what was told in time is not too late, and the wait begins with the sending; a new client begins anew.
func TestTickInTime(t *testing.T) {
	w := two(t, 8, 5)
	w.tick(100)
	w.feed(1, "get a|")
	w.tick(4)
	w.got(0, "END|")
	w.tick(100)
	w.tells(1, "END|")
	w.feed(1, "get a|")
	w.got(0, "EN")
	w.tick(5)
	w.tells(1, "END|")
	w.up(0)
	w.tick(4)
	w.got(0, "OK|")
	w.feed(1, "get a|")
	w.tick(4)
	w.tells()
	w.got(0, "END|")
	w.tells(1, "END|")
}

// P21.11: all servers may go down with one Tick.
func TestTickAll(t *testing.T) {
	w := three(t, 8, 1)
	w.feed(1, "flush_all|get a b c|")
	w.tick(1)
	w.tells(1, someDid+"END|")
	w.feed(1, "flush_all|")
	w.sends()
	w.tells(1, someDid)
	w.tick(1)
}

// P21.7: 1024 commands may wait for a server; behind one that has ended there is room for one.
func TestBusy(t *testing.T) {
	w := two(t, 8, 0)
	w.open(2)
	w.feed(1, strings.Repeat("get a|", 1023))
	w.feed(2, "delete a|delete a|delete a noreply|delete b|")
	w.sends(0, strings.Repeat("get a|", 1023)+"delete a|", 1, "delete b|")
	w.got(0, strings.Repeat("END|", 1022))
	w.got(1, "DELETED|")
	w.tells(1, strings.Repeat("END|", 1022))
	w.got(0, "END|NOT_FOUND|")
	w.tells(1, "END|", 2, "NOT_FOUND|"+isBusy+"DELETED|")
	w.full()
	w.got(0, "END|")
	w.feed(2, "delete a|delete a|")
	w.sends(0, "delete a|")
}
