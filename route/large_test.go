package route_test

import "testing"

// large are commands whose block is above 8 bytes, but for append and prepend.
func large() []string {
	return []string{"set a 0 0 9|123456789|", "add a 5 6 9|123456789|", "replace a 0 0 9|123456789|", "cas a 0 0 9 7|123456789|", "ms a 9|123456789|", "ms a 9 MA c|123456789|", "set a 0 0 9|1234567890|"}
}

// P21.5: in the place of a block that is too large a delete goes to the key's server; if that is answered, whatever it is, the block was too large.
func TestLarge(t *testing.T) {
	for _, text := range large() {
		for _, reply := range []string{"DELETED|", "NOT_FOUND|", "ERROR|", "SERVER_ERROR x|"} {
			w := two(t, 8, 0)
			w.feed(1, text)
			w.sends(0, "delete a|")
			w.tells()
			w.got(0, reply)
			w.tells(1, tooLarge)
			w.tells()
		}
	}
}

// P21.5: and else the server is down.
func TestLargeUnanswered(t *testing.T) {
	for _, text := range large() {
		w := two(t, 8, 5)
		w.down(0)
		w.feed(1, text)
		w.sends()
		w.tells(1, isDown)
		w.up(0)
		w.feed(1, text)
		w.sends(0, "flush_all|")
		w.tells(1, isDown)
		w.got(0, "OK|")
		for _, fall := range []func(){func() { w.down(0) }, func() { w.got(0, "STORED|") }, func() { w.tick(5) }} {
			w.feed(1, text)
			w.sends(0, "delete a|")
			w.tells()
			fall()
			w.tells(1, isDown)
			w.back(0)
		}
	}
}

// P21.7: "server is busy" is an answer, too.
func TestLargeBusy(t *testing.T) {
	for _, text := range large() {
		w := two(t, 8, 0)
		w.open(2)
		w.full()
		w.feed(2, text)
		w.sends()
		w.tells(2, tooLarge)
	}
}

// P21.5: with noreply the delete goes out all the same, without it: its reply comes back, and is told to nobody.
func TestLargeNoreply(t *testing.T) {
	for _, text := range []string{"set a 0 0 9 noreply|123456789|", "add a 0 0 9 noreply|123456789|", "replace a 0 0 9 noreply|123456789|", "cas a 0 0 9 7 noreply|123456789|"} {
		w := two(t, 8, 5)
		w.feed(1, text+"get a|")
		w.sends(0, "delete a|get a|")
		w.tells()
		w.got(0, "DELETED|")
		w.tells()
		w.got(0, "END|")
		w.tells(1, "END|")

		w.feed(1, text)
		w.sends(0, "delete a|")
		w.tick(5) // nobody waits for it, but its server is too late
		w.tells()
		w.feed(1, text+"touch a 1|")
		w.sends()
		w.tells(1, isDown)
	}
}

// P21.5: a block of just the limit is none of these; nor is one of a limit below 0 that has no bytes.
func TestLargeEdge(t *testing.T) {
	w := two(t, 8, 0)
	w.feed(1, "set a 0 0 8|12345678|set b 0 0 9|123456789|")
	w.sends(0, "set a 0 0 8|12345678|", 1, "delete b|")
	for _, limit := range []int{0, -1, -1 << 63} {
		w = two(t, limit, 0)
		w.feed(1, "set a 0 0 0||set a 0 0 1|x|append a 0 0 0||append a 0 0 1|x|")
		w.sends(0, "set a 0 0 0||delete a|append a 0 0 0||")
		w.got(0, "STORED|DELETED|NOT_STORED|")
		w.tells(1, "STORED|"+tooLarge+"NOT_STORED|"+tooLarge)
	}
}

// Without a bound every block goes out whole.
func TestNoLimit(t *testing.T) {
	w := two(t, 1<<62, 0)
	w.feed(1, "set a 0 0 9|123456789|")
	w.sends(0, "set a 0 0 9|123456789|")
}
