package client_test

import (
	"bytes"
	"slices"
	"testing"

	"granary/api"
	"granary/client"
)

const filler = "!!!!!!!!!!!!!!!!"

// spare is a row of bytes with room behind it, which is filled.
func spare(text string) []byte { return append([]byte(text), filler...)[:len(text)] }

// isSpare: is it as it was, the room behind it too?
func isSpare(p []byte, text string) bool {
	return bytes.Equal(p[:len(text)+len(filler)], []byte(text+filler))
}

// wipe changes all bytes that can be reached, the spare room too.
func wipe(p []byte) {
	for i := range p[:cap(p)] {
		p[:cap(p)][i] = '#'
	}
}

// wipeEnds changes all that can be reached of some ends.
func wipeEnds(l []api.Done) {
	for _, d := range l {
		for _, e := range d.Answer.Entries {
			wipe(e.Value)
		}
		for i := range d.Answer.Entries[:cap(d.Answer.Entries)] {
			d.Answer.Entries[:cap(d.Answer.Entries)][i] = api.Entry{Key: "#"}
		}
		for i := range d.Answer.Stats[:cap(d.Answer.Stats)] {
			d.Answer.Stats[:cap(d.Answer.Stats)][i] = api.StatLine{Name: "#"}
		}
	}
	for i := range l[:cap(l)] {
		l[:cap(l)][i] = api.Done{Seq: 99}
	}
}

// roomy is a command whose lists have room behind them, which is filled.
func roomy(m api.Command) api.Command {
	m.Keys = append(slices.Clone(m.Keys), "#", "#")[:len(m.Keys)]
	m.Meta = append(slices.Clone(m.Meta), api.Flag{Letter: '#'})[:len(m.Meta)]
	m.Data = spare(string(m.Data))
	return m
}

// R2: a command that is handed in is not changed and not kept: whatever becomes of it, its reply is read, and it is sent again.
func TestCommandIsNotKept(t *testing.T) {
	for _, s := range samples() {
		a := s.answers[min(1, len(s.answers)-1)]
		c := client.New(0)
		m := roomy(s.m)
		sends(t, c, m, 1, s.text)
		if !slices.Equal(m.Keys[:len(m.Keys)+2], append(slices.Clone(s.m.Keys), "#", "#")) || m.Meta[:len(m.Meta)+1][len(m.Meta)].Letter != '#' || !slices.Equal(m.Meta, s.m.Meta) || !isSpare(m.Data, string(s.m.Data)) {
			t.Fatalf("verb %d was changed: %v", s.m.Verb, m)
		}
		for i := range m.Keys {
			m.Keys[i] = "z"
		}
		clear(m.Meta)
		wipe(m.Data)
		if s.reads {
			ends(t, c.Close())
			reopens(t, c, s.text)
		}
		takes(t, c, bytesOf(t, s.m, a), ok(1, a))
	}
}

// R2: a chunk is not changed and not kept.
func TestChunkIsNotKept(t *testing.T) {
	for _, s := range samples() {
		for _, a := range s.answers {
			raw := bytesOf(t, s.m, a)
			for at := range len(raw) {
				c := client.New(0)
				sent(t, c, s.m)
				first, second := spare(raw[:at]), spare(raw[at:])
				ends(t, c.Take(first))
				if !isSpare(first, raw[:at]) {
					t.Fatalf("a chunk of %q was changed", raw)
				}
				wipe(first)
				got := c.Take(second)
				if !isSpare(second, raw[at:]) {
					t.Fatalf("a chunk of %q was changed", raw)
				}
				wipe(second)
				ends(t, got, ok(1, a))
			}
		}
	}
}

// R2: bytes behind a whole reply are the client's own, too.
func TestRestIsNotKept(t *testing.T) {
	c := client.New(0)
	sent(t, c, get("a"))
	sent(t, c, get("b"))
	chunk := spare(lines("VALUE a 0 1|x|END|VALUE b 0 3|y"))
	l := c.Take(chunk)
	wipe(chunk)
	ends(t, l, ok(1, values(entry("a", "x"))))
	wipeEnds(l)
	takes(t, c, "yy|END|", ok(2, values(entry("b", "yyy"))))
}

// R2: the bytes that are told are the caller's.
func TestBytesAreTheCallers(t *testing.T) {
	for _, s := range samples() {
		if !s.reads {
			continue
		}
		c := client.New(0)
		_, b, _ := c.Send(s.m)
		_, other, _ := c.Send(s.m)
		wipe(b)
		if string(other) != lines(s.text) {
			t.Fatalf("two Sends share memory: %q", other)
		}
		wipe(other)
		ends(t, c.Close())
		b, e := c.Reopen()
		if string(b) != lines(s.text+s.text) || e != api.OK {
			t.Fatalf("Reopen is %q, %v", b, e)
		}
		wipe(b)
		raw := bytesOf(t, s.m, s.answers[0])
		takes(t, c, raw+raw, ok(1, s.answers[0]), ok(2, s.answers[0]))
	}
}

// R2: the ends that are told are the caller's, each of them apart from the others.
func TestEndsAreTheCallers(t *testing.T) {
	for _, s := range samples() {
		for _, a := range s.answers {
			c := client.New(5)
			for range 4 {
				sent(t, c, s.m)
			}
			raw := bytesOf(t, s.m, a)
			l := c.Take([]byte(raw + raw + raw[:len(raw)-1]))
			ends(t, l, ok(1, a), ok(2, a))
			one, two := slices.Clone(l[:1]), slices.Clone(l[1:])
			wipeEnds(one)
			ends(t, two, ok(2, a))
			wipeEnds(l)
			third := c.Take([]byte(raw[len(raw)-1:]))
			ends(t, third, ok(3, a))
			wipeEnds(third)
			gone := c.Tick(5)
			ends(t, gone, late(4))
			wipeEnds(gone)
			ends(t, c.Tick(5))
			stands(t, c, 1, true)
		}
	}
}

// R2: what was told stays as it is, whatever comes behind it.
func TestEndsStay(t *testing.T) {
	c := client.New(5)
	for range 3 {
		sent(t, c, get("a"))
	}
	first := c.Take([]byte(lines("VALUE a 0 1|1|END|VALUE a 0 1|")))
	second := c.Take([]byte(lines("2|END|VALUE")))
	takes(t, c, " a 0 1|3|END|", ok(3, values(entry("a", "3"))))
	sent(t, c, set("a"))
	third := c.Close()
	reopens(t, c, "")
	sent(t, c, get("a"))
	fourth := c.Take([]byte("bogus"))
	takes(t, c, "STORED|")
	ends(t, first, ok(1, values(entry("a", "1"))))
	ends(t, second, ok(2, values(entry("a", "2"))))
	ends(t, third, closed(4))
	ends(t, fourth, garbled(5))
}

// R3: a refusal changes nothing.
func TestRefusalsChangeNothing(t *testing.T) {
	c := client.New(5)
	sent(t, c, get("a"))
	takes(t, c, "VALUE a 0 5|EN")
	refused := func() {
		refuses(t, c, get(), api.ErrForm)
		refuses(t, c, flagged(cmd(api.MetaGet, "a"), "q"), api.ErrForm)
		refuses(t, c, quiet(cmd(api.Quit)), api.ErrForm)
		busy(t, c)
		stands(t, c, 1, true)
	}
	refused()
	ticks(t, c, 4)
	refused()
	takes(t, c, "D||E")
	refused()
	takes(t, c, "ND|", ok(1, values(entry("a", "END\r\n"))))
	sends(t, c, get("b"), 2, "get b|")
	ends(t, c.Close())
	refuses(t, c, get("a"), api.ErrClosed)
	refuses(t, c, cmd(api.Quit), api.ErrClosed)
	refuses(t, c, quiet(set("a")), api.ErrClosed)
	stands(t, c, 0, false)
	reopens(t, c, "get b|")
	stands(t, c, 1, true)
	sends(t, c, get("c"), 3, "get c|")
}

// R4: two clients know nothing of each other.
func TestApart(t *testing.T) {
	a, b := client.New(5), client.New(0)
	sends(t, a, get("a"), 1, "get a|")
	sends(t, b, set("b"), 1, "set b 0 0 1|x|")
	takes(t, a, "EN")
	takes(t, b, "STORED|", ok(1, kind(api.Stored)))
	sends(t, b, get("c"), 2, "get c|")
	ticks(t, b, 5)
	ends(t, b.Close())
	stands(t, a, 1, true)
	takes(t, a, "D|", miss(1))
	sends(t, a, get("d"), 2, "get d|")
	takes(t, a, "bogus", garbled(2))
	reopens(t, b, "get c|")
	stands(t, b, 1, true)
	stands(t, a, 0, false)
}
