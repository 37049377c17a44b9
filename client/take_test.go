package client_test

import (
	"strings"
	"testing"

	"granary/api"
	"granary/client"
	"granary/reply"
)

// P20.3: each command with each of its replies: it ends with just that one, at the last byte.
func TestEveryReply(t *testing.T) {
	for _, s := range samples() {
		for _, a := range s.answers {
			raw := bytesOf(t, s.m, a)
			c := client.New(0)
			sent(t, c, s.m)
			takes(t, c, raw, ok(1, a))
			stands(t, c, 0, true)
			sent(t, c, s.m)
			for i := range len(raw) - 1 {
				takes(t, c, raw[i:i+1])
				stands(t, c, 1, true)
			}
			takes(t, c, raw[len(raw)-1:], ok(2, a))
			stands(t, c, 0, true)
		}
	}
}

// P20.10: the replies of all of them in one chunk, each its own.
func TestAllReplies(t *testing.T) {
	c := client.New(0)
	var raw strings.Builder
	var must []api.Done
	for _, s := range samples() {
		for _, a := range s.answers {
			must = append(must, ok(sent(t, c, s.m), a))
			raw.WriteString(bytesOf(t, s.m, a))
		}
	}
	takes(t, c, raw.String(), must...)
	stands(t, c, 0, true)
}

// P20.10: what is not told of an Entry is zero.
func TestHeard(t *testing.T) {
	c := client.New(0)
	sent(t, c, get("a"))
	full := api.Entry{Key: "a", Value: []byte("x"), Flags: 5, Expiry: 6, Token: 7, Touched: 8, Stale: true, Won: true, Hit: true}
	takes(t, c, bytesOf(t, get("a"), values(full)), ok(1, values(api.Entry{Key: "a", Value: []byte("x"), Flags: 5})))
}

// P20.3: whose a reply is goes by the order of the commands alone, never by the key.
func TestOrder(t *testing.T) {
	c := client.New(0)
	for i := range 3 {
		sends(t, c, get("a"), i+1, "get a|")
	}
	takes(t, c, "VALUE a 0 1|1|END|END|VAL", ok(1, values(entry("a", "1"))), miss(2))
	stands(t, c, 1, true)
	sends(t, c, set("b"), 4, "set b 0 0 1|x|")
	takes(t, c, "UE a 0 1|3|END|STORED|", ok(3, values(entry("a", "3"))), ok(4, kind(api.Stored)))
	stands(t, c, 0, true)
}

// P20.3: a reply that is not the next command's garbles the stream, at its first wrong byte.
func TestGarbled(t *testing.T) {
	for _, s := range samples() {
		for _, raw := range []string{"bogus\r\n", "\r\n", "\n", "\x00", " ", "x", "END\n", "ERROR \r\n", "CLIENT_ERROR \r\n", "VALUE z", "-1\r\n", "STORED \r\n", "get a b\r\n"} {
			if _, _, e := reply.Read(s.m, []byte(raw)); e != api.ErrForm {
				t.Fatalf("verb %d may be told %q", s.m.Verb, raw)
			}
			c := client.New(0)
			sent(t, c, s.m)
			sent(t, c, set("b"))
			sent(t, c, get("c"))
			var l []api.Done
			for i := range len(raw) {
				// The stream is gone as soon as no reply begins so, not earlier.
				_, _, e := reply.Read(s.m, []byte(raw[:i]))
				stands(t, c, map[bool]int{true: 3, false: 0}[e == api.OK], e == api.OK)
				l = append(l, c.Take([]byte(raw[i:i+1]))...)
			}
			ends(t, l, garbled(1), garbled(2), garbled(3))
			stands(t, c, 0, false)
			refuses(t, c, get("a"), api.ErrClosed)
			// Nothing of it is kept, what only reads neither, and its bytes are forgotten.
			ends(t, c.Close())
			ticks(t, c, 9)
			reopens(t, c, "")
			sends(t, c, s.m, 4, s.text)
			takes(t, c, bytesOf(t, s.m, s.answers[0]), ok(4, s.answers[0]))
		}
	}
}

// P20.3: what has ended does so; what is over ends no more; all others end garbled.
func TestGarbledBehind(t *testing.T) {
	c := client.New(5)
	sent(t, c, get("a"))
	sent(t, c, set("a"))
	sent(t, c, quiet(set("a")))
	ticks(t, c, 4)
	sent(t, c, get("b"))
	sent(t, c, set("b"))
	ticks(t, c, 1, late(1), late(2))
	takes(t, c, "END|STORED|END|bogus", miss(4), garbled(5))
	stands(t, c, 0, false)

	c = client.New(5)
	sent(t, c, get("a"))
	sent(t, c, get("b"))
	ticks(t, c, 5, late(1), late(2))
	sent(t, c, get("c"))
	takes(t, c, "bogus", garbled(3))
	stands(t, c, 0, false)

	c = client.New(5)
	sent(t, c, get("a"))
	ticks(t, c, 5, late(1))
	takes(t, c, "bogus")
	stands(t, c, 0, false)
	reopens(t, c, "")
}

// P20.3: bytes that nobody waits for garble the stream, in the same chunk or a later one.
func TestNobodyWaits(t *testing.T) {
	for _, raw := range []string{"END\r\n", "S", "\r", "\x00", " "} {
		c := client.New(0)
		takes(t, c, "")
		stands(t, c, 0, true)
		takes(t, c, raw)
		stands(t, c, 0, false)
		reopens(t, c, "")

		sent(t, c, get("a"))
		takes(t, c, "END|"+raw, miss(1))
		stands(t, c, 0, false)
		reopens(t, c, "")

		sent(t, c, get("a"))
		takes(t, c, "END|", miss(2))
		stands(t, c, 0, true)
		takes(t, c, raw)
		stands(t, c, 0, false)
		reopens(t, c, "")
		stands(t, c, 0, true)
	}
}

// P20.3: a chunk without bytes does nothing, wherever it comes.
func TestNoBytes(t *testing.T) {
	c := client.New(0)
	for _, none := range [][]byte{nil, {}} {
		ends(t, c.Take(none))
		stands(t, c, 0, true)
		n := sent(t, c, get("a"))
		ends(t, c.Take(none))
		takes(t, c, "EN")
		ends(t, c.Take(none))
		stands(t, c, 1, true)
		takes(t, c, "D|", miss(n))
		ends(t, c.Take(none))
		stands(t, c, 0, true)
	}
}

// P20.3: without a stream a chunk is forgotten.
func TestForgotten(t *testing.T) {
	c := client.New(0)
	sent(t, c, get("a"))
	c.Close()
	takes(t, c, "END|")
	takes(t, c, "bogus")
	stands(t, c, 0, false)
	reopens(t, c, "get a|")
	takes(t, c, "END|", miss(1))
	stands(t, c, 0, true)
	takes(t, c, "bogus")
	takes(t, c, "EN")
	reopens(t, c, "")
	sent(t, c, get("b"))
	takes(t, c, "END|", miss(2))
}

// P20.3: the reply of one that is over passes, cut anywhere, and the next one's is the next one's.
func TestOverPasses(t *testing.T) {
	for _, s := range samples() {
		for _, a := range s.answers {
			raw := bytesOf(t, s.m, a) + "VALUE b 0 1\r\nx\r\nEND\r\n"
			for at := range len(raw) {
				c := client.New(5)
				sent(t, c, s.m)
				ticks(t, c, 3)
				sent(t, c, get("b"))
				l := c.Take([]byte(raw[:at]))
				answered := len(l) > 0
				if !answered {
					l = c.Tick(2)
				}
				l = append(l, c.Take([]byte(raw[at:]))...)
				first := late(1)
				if answered {
					first = ok(1, a)
				}
				ends(t, l, first, ok(2, values(entry("b", "x"))))
				stands(t, c, 0, true)
			}
		}
	}
}

// A great value in small pieces, and a full row's replies in one chunk.
func TestGreat(t *testing.T) {
	c := client.New(0)
	value := strings.Repeat("END\r\n", 200000)
	sent(t, c, get("a"))
	raw := bytesOf(t, get("a"), values(entry("a", value)))
	for len(raw) > 97 {
		if l := c.Take([]byte(raw[:97])); len(l) != 0 {
			t.Fatal("it has ended early")
		}
		raw = raw[97:]
	}
	ends(t, c.Take([]byte(raw)), ok(1, values(entry("a", value))))

	for range 3 {
		fill(t, c)
		if l := c.Take([]byte(strings.Repeat("END\r\n", 1024))); len(l) != 1024 {
			t.Errorf("%d of 1024 have ended", len(l))
		}
		stands(t, c, 0, true)
	}
}
