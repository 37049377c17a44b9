package route_test

import (
	"strings"
	"testing"

	"granary/api"
	"granary/ring"
	"granary/route"
)

// P21.1: a ring without servers makes no router; one of any other does, whatever the limit and the wait are.
func TestNew(t *testing.T) {
	var empty ring.Ring
	one := circle(t, "shed")
	gone, e := one.Drop("shed")
	if e != api.OK {
		t.Fatal(e)
	}
	for _, r := range []ring.Ring{empty, gone} {
		for _, n := range []int{-1 << 63, -1, 0, 1, 1<<63 - 1} {
			if x, e := route.New(r, n, n); x != nil || e != api.ErrArg {
				t.Errorf("New of an empty ring is %v, %v", x, e)
			}
		}
	}
	for _, n := range []int{-1 << 63, -1, 0, 1, 1<<63 - 1} {
		w := newWorld(t, one, n, n)
		w.is("Close", w.r.Close(1), api.ErrConn)
		w.open(1)
		w.sends()
		w.tells()
		w.feed(1, "get a b|")
		w.sends(0, "get a b|")
		w.got(0, "END|")
		w.tells(1, "END|")
	}
}

// P21.1: limit is what a connection's blocks may have, wait how long a server's commands wait; for ever, if that is below 1.
func TestWaitForEver(t *testing.T) {
	for _, wait := range []int{0, -1, -1 << 63} {
		w := two(t, 8, wait)
		w.feed(1, "get a|")
		w.tick(1<<63 - 1)
		w.tick(1<<63 - 1)
		w.tells()
		w.got(0, "END|")
		w.tells(1, "END|")
	}
	w := two(t, 8, 1<<63-1)
	w.feed(1, "get a|")
	w.tick(1<<63 - 2)
	w.tells()
	w.tick(1)
	w.tells(1, "END|")
}

// P21.2: numbers go on, also where connections are closed or have quit.
func TestOpen(t *testing.T) {
	w := newWorld(t, pair(t), 8, 0)
	for n := 1; n <= 5; n++ {
		w.open(n)
	}
	w.close(5)
	w.close(2)
	w.open(6)
	w.feed(6, "quit|")
	w.open(7)
	for _, n := range []int{2, 5, 6, 8, 0, -1, -1 << 63, 1<<63 - 1} {
		w.is("Close", w.r.Close(n), api.ErrConn)
		w.is("Feed", w.r.Feed(n, []byte("mn\r\n")), api.ErrConn)
		w.is("Feed", w.r.Feed(n, nil), api.ErrConn)
	}
	w.tells()
	for _, n := range []int{1, 3, 4, 7} {
		w.feed(n, "mn|")
	}
	w.tells(1, "MN|", 3, "MN|", 4, "MN|", 7, "MN|")
}

// P21.2: 1024 may be open; a refusal takes no number. One that was closed or has quit is open no more, though it is owed something.
func TestManyConns(t *testing.T) {
	w := newWorld(t, pair(t), 8, 0)
	for n := 1; n <= api.MaxConns; n++ {
		w.open(n)
	}
	many := func() {
		t.Helper()
		for range 3 {
			if n, e := w.r.Open(); n != 0 || e != api.ErrMany {
				t.Fatalf("Open is %d, %v", n, e)
			}
		}
	}
	many()
	w.close(5)
	w.open(1025)
	many()
	w.feed(7, "get a|quit|")
	w.open(1026)
	many()
	w.is("Close", w.r.Close(7), api.ErrConn)
	many()
	w.got(0, "END|")
	w.tells(7, "END|")
	many()
	for n := 1; n <= 1026; n++ {
		if n != 5 && n != 7 {
			w.feed(n, "mn|")
		}
	}
	if l := w.r.Tells(); len(l) != 1024 || l[1023].To != 1026 || l[4].To != 6 {
		t.Errorf("%d connections are told something", len(l))
	}
}

// P21.2: a connection that is closed is told nothing any more: neither what has come, nor what comes.
func TestClosed(t *testing.T) {
	w := two(t, 8, 0)
	w.open(2)
	w.feed(1, "mn|get a|set b 0 0 1|x|set a 0 0 1 noreply|y|get a")
	w.feed(2, "get a|")
	w.got(0, "END|")
	w.close(1)
	w.tells()
	w.sends(0, "get a|set a 0 0 1 noreply|y|get a|", 1, "set b 0 0 1|x|") // what it has sent stays sent
	w.got(1, "STORED|")
	w.tells()
	w.got(0, "VALUE a 0 1|y|END|")
	w.tells(2, "VALUE a 0 1|y|END|")
	w.is("Feed", w.r.Feed(1, []byte("\r\n")), api.ErrConn)
	w.sends()
}

// P21.2: what waits for a server of a connection that is closed counts for that server still.
func TestClosedStillWaits(t *testing.T) {
	w := two(t, 8, 5)
	w.open(2)
	w.full()
	w.close(1)
	w.feed(2, "get a|")
	w.tells(2, isBusy)
	w.tick(5)
	w.feed(2, "delete a|")
	w.tells(2, isDown)
}

// P21.5: behind a quit nothing is done, and the connection is told all that it is owed, no matter how late that comes.
func TestQuit(t *testing.T) {
	w := two(t, 8, 0)
	w.open(2)
	w.feed(1, "get a|mn|get b|quit|get c|mn|")
	w.sends(0, "get a|", 1, "get b|")
	w.is("Feed", w.r.Feed(1, []byte("mn\r\n")), api.ErrConn)
	w.is("Close", w.r.Close(1), api.ErrConn)
	w.got(1, "END|")
	w.tells()
	w.feed(2, "version|")
	w.got(0, "VALUE a 0 1|x|END|")
	w.tells(1, "VALUE a 0 1|x|END|MN|END|", 2, "VERSION granary 1|")
	w.is("Close", w.r.Close(1), api.ErrConn)
	w.tells()
	w.feed(2, "quit|")
	w.is("Close", w.r.Close(2), api.ErrConn)
	w.tells()

	w.open(3)
	w.feed(3, "mn|bogus|qu")
	w.feed(3, "it|")
	w.is("Close", w.r.Close(3), api.ErrConn)
	w.tells(3, "MN|ERROR|")
	w.open(4)
	w.feed(4, "get a|quit|")
	w.down(0)
	w.tells(4, "END|")
}

// P21.3, P21.12: each connection is told its own, in the order of its steps; one does not wait for another.
func TestInOrder(t *testing.T) {
	w := three(t, 8, 0)
	w.open(2)
	w.open(3)
	w.feed(1, "get a|delete b|mn|get c|")
	w.feed(2, "delete b|get c|bogus|")
	w.feed(3, "get c|get a|")
	w.sends(0, "get a|get a|", 1, "delete b|delete b|", 2, "get c|get c|get c|")
	w.got(2, "VALUE c 0 1|1|END|VALUE c 0 1|2|END|")
	w.tells()
	w.got(1, "DELETED|NOT_FOUND|")
	w.tells(2, "NOT_FOUND|VALUE c 0 1|2|END|ERROR|")
	w.got(2, "VALUE c 0 1|3|END|")
	w.tells(3, "VALUE c 0 1|3|END|")
	w.got(0, "VALUE a 0 1|4|END|")
	w.tells(1, "VALUE a 0 1|4|END|DELETED|MN|VALUE c 0 1|1|END|")
	w.got(0, "END|")
	w.tells(3, "END|")
}

// P21.4: what is told is told once, by the numbers, and all of it at once.
func TestOuts(t *testing.T) {
	w := three(t, 8, 0)
	w.sends()
	w.tells()
	w.open(2)
	w.feed(2, "get c|mn|mn|get b|get c|")
	w.feed(1, "mn|get c|")
	w.sends(1, "get b|", 2, "get c|get c|get c|")
	w.sends()
	w.tells(1, "MN|")
	w.tells()
	w.feed(1, "get a|")
	w.sends(0, "get a|")
	w.got(2, "END|END|END|")
	w.tells(1, "END|", 2, "END|MN|MN|")
	w.tells()
	w.got(1, "END|")
	w.tells(2, "END|END|")
	w.feed(2, "")
	w.got(0, "")
	w.tells()
	w.sends()
}

// P21.3: steps are done as soon as they are whole, and no earlier; each connection has bytes of its own.
func TestChunks(t *testing.T) {
	w := two(t, 8, 0)
	w.open(2)
	w.feed(1, "set a 0 0 5|ab")
	w.feed(2, "set a 0 0 2|x")
	w.sends()
	w.feed(1, "cde|get")
	w.sends(0, "set a 0 0 5|abcde|")
	w.feed(2, "y|")
	w.feed(1, " b|")
	w.sends(0, "set a 0 0 2|xy|", 1, "get b|")
}

// A connection that sends very much, all of which waits for one reply.
func TestLongRow(t *testing.T) {
	w := two(t, 8, 0)
	w.feed(1, "get a|"+strings.Repeat("mn|", 20000))
	w.tells()
	w.got(0, "END|")
	w.tells(1, "END|"+strings.Repeat("MN|", 20000))
}
