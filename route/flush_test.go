package route_test

import (
	"strings"
	"testing"
)

// P21.5: a flush_all goes to all servers, in the order of their numbers, as it stands.
func TestFlush(t *testing.T) {
	for _, text := range []string{"flush_all|", "flush_all 30|"} {
		w := three(t, 8, 0)
		w.feed(1, text+"mn|")
		w.sends(0, text, 1, text, 2, text)
		w.got(2, "OK|")
		w.got(0, "OK|")
		w.tells()
		w.got(1, "OK|")
		w.tells(1, "OK|MN|")
	}
}

// P21.5: if one answers otherwise, or not at all, that is told when all have ended.
func TestFlushUnanswered(t *testing.T) {
	w := three(t, 8, 5)
	bad := []func(){func() { w.got(1, "ERROR|") }, func() { w.got(1, "SERVER_ERROR x|") }, func() { w.down(1) }, func() { w.got(1, "END|") }}
	for _, fall := range bad {
		w = three(t, 8, 5)
		w.feed(1, "flush_all|")
		w.got(2, "OK|")
		fall()
		w.tells()
		w.got(0, "OK|")
		w.tells(1, someDid)
	}
	w = three(t, 8, 5)
	w.feed(1, "flush_all|")
	w.got(0, "OK|")
	w.got(2, "OK|")
	w.tick(4)
	w.tells()
	w.tick(1)
	w.tells(1, someDid)
}

// P21.5: one that is down or coming is not asked; without any that is up nobody has answered.
func TestFlushOfSome(t *testing.T) {
	w := three(t, 8, 0)
	w.down(0)
	w.down(2)
	w.up(2)
	w.sends(2, "flush_all|")
	w.feed(1, "flush_all 7|")
	w.sends(1, "flush_all 7|")
	w.got(2, "OK|") // of the flush with which it comes up
	w.tells()
	w.got(1, "OK|")
	w.tells(1, "OK|")
	w.down(1)
	w.down(2)
	w.feed(1, "flush_all|")
	w.sends()
	w.tells(1, someDid)
	w.up(0)
	w.feed(1, "flush_all|")
	w.sends(0, "flush_all|")
	w.tells(1, someDid)
}

// P21.7: a server that is busy has answered, but not OK.
func TestFlushBusy(t *testing.T) {
	w := two(t, 8, 0)
	w.open(2)
	w.full()
	w.feed(2, "flush_all|")
	w.sends(1, "flush_all|")
	w.tells()
	w.got(1, "OK|")
	w.tells(2, someDid)
}

// P21.5: with noreply it goes out so, and nothing is told of it.
func TestFlushNoreply(t *testing.T) {
	w := two(t, 8, 5)
	w.feed(1, "flush_all noreply|flush_all 9 noreply|mn|")
	w.sends(0, "flush_all noreply|flush_all 9 noreply|", 1, "flush_all noreply|flush_all 9 noreply|")
	w.tells(1, "MN|")
	w.tick(5)
	w.full()
	w.feed(1, "flush_all noreply|")
	w.sends(1, "flush_all noreply|")
	w.got(0, strings.Repeat("END|", 1024))
	w.tells(1, strings.Repeat("END|", 1024))
	w.down(0)
	w.down(1)
	w.feed(1, "flush_all noreply|")
	w.sends()
	w.tells()
}
