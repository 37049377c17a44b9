package serve_test

import (
	"slices"
	"strings"
	"testing"

	"granary/api"
	"granary/serve"
	"granary/words"
)

// mixed has right and wrong steps of many kinds, and stats at its end.
var mixed = lines("set a 5 0 3|abc|get a|ms b 2 T5 k|hi|mg b v t|set c 0 0 3|abcd|bogus|set d 0 0 260|") + many(260) +
	lines("|set e x 0 2|gg|incr a 1|set n 0 0 1 noreply|7|incr n 5|cas n 0 0 1 4|8|gets n a b c d e|\nget a\n\rget a|stats|")

// sends sends pieces on connection 1, and looks behind each how much is held.
func sends(t *testing.T, s *serve.Server, limit int, pieces ...string) (out string) {
	t.Helper()
	for _, p := range pieces {
		b, no := s.Do(api.Event{Kind: api.Chunk, Conn: 1, Bytes: []byte(p)})
		if no != api.OK {
			t.Fatalf("%.80q: %v", p, no)
		}
		out += string(b)
		if held := s.Holds(1); held > 2048+limit+3 {
			t.Fatalf("behind %.80q %d bytes are held", p, held)
		}
	}
	return out
}

// W5: a chunk in the place of which its pieces come, cut in two at every place, byte by byte, and with empty ones between.
func TestCuts(t *testing.T) {
	must := sends(t, opened(t, 1), 256, mixed)
	for at := range len(mixed) + 1 {
		if got := sends(t, opened(t, 1), 256, mixed[:at], mixed[at:]); got != must {
			t.Fatalf("cut at %d: %q, not %q", at, got, must)
		}
	}
	if got := sends(t, opened(t, 1), 256, strings.Split(mixed, "")...); got != must {
		t.Errorf("byte by byte: %q, not %q", got, must)
	}
	if got := sends(t, opened(t, 1), 256, strings.SplitAfter(mixed, "\n")...); got != must {
		t.Errorf("line by line: %q, not %q", got, must)
	}
	var apart []string
	for _, p := range strings.Split(mixed, "a") {
		apart = append(apart, "", p, "", "a")
	}
	if got := sends(t, opened(t, 1), 256, apart[:len(apart)-1]...); got != must {
		t.Errorf("with empty chunks between: %q, not %q", got, must)
	}
}

// W5: random bytes of random commands, cut at random, on one connection; with a quit now and then.
func TestRandomCuts(t *testing.T) {
	for seed := range uint64(200) {
		d := diceOf(seed)
		d.odd = pick(d, 0, 10, 40)
		text := ""
		for range 60 {
			text += d.command()
		}
		if d.IntN(3) == 0 {
			text += "quit\r\nget a\r\nset a 0 0 9"
		}
		whole, cut := opened(t, 1), opened(t, 1)
		b, _ := whole.Do(chunk(1, text))
		must, got := string(b), ""
		steps, _ := words.All([]byte(text), 256)
		end := len(text)
		if n := len(steps); n > 0 && steps[n-1].Command.Verb == api.Quit {
			end = steps[n-1].To
		}
		for at := 0; at < len(text); {
			to := min(at+1+d.IntN(40), len(text))
			b, no := cut.Do(chunk(1, text[at:to]))
			if (no == api.ErrConn) != (at >= end) || no != api.OK && no != api.ErrConn {
				t.Fatalf("seed %d: at %d of %d: %v", seed, at, end, no)
			}
			got += string(b)
			at = to
		}
		if got != must {
			t.Fatalf("seed %d: %q, not %q", seed, got, must)
		}
		opens(t, whole, 2)
		opens(t, cut, 2)
		alike(t, "cuts", cut, whole, chunk(2, "stats|gets a b c n m|"))
	}
}

// W5: chunks of one connection are cut, those of others come between: each command stands where its last byte comes.
func TestCutsOfMany(t *testing.T) {
	s := opened(t, 3)
	script := []struct {
		conn       int
		text, must string
	}{
		{1, "set a 0 0 3|on", ""},
		{2, "set a 0 0 3|two", ""},
		{3, "get", ""},
		{2, "|get a|", "STORED|VALUE a 0 3|two|END|"},
		{3, " a", ""},
		{1, "e|incr", "STORED|"},
		{3, "|delete a|", "VALUE a 0 3|one|END|DELETED|"},
		{1, " a 1|", "NOT_FOUND|"},
		{2, "get a|", "END|"},
	}
	for _, x := range script {
		told(t, s, x.conn, x.text, x.must)
	}
}

// Cutting is not seen in scripts of many connections either, as long as a piece is followed by the rest of its chunk.
func TestCutScripts(t *testing.T) {
	for seed := range uint64(40) {
		d := diceOf(seed)
		d.odd, d.crowd = pick(d, 0, 30), pick(d, false, true)
		script := d.script(300)
		whole, cut := opened(t, 0), opened(t, 0)
		for i, e := range script {
			must, no := whole.Do(e)
			got, but := pieces(d, cut, e)
			if got != string(must) || no != but {
				t.Fatalf("seed %d, event %d: %.400q is told %.900q, %v, not %.900q, %v", seed, i, e.Bytes, got, but, must, no)
			}
		}
		alike(t, "cut scripts", cut, whole, opening(), chunk(d.last+1, "stats|"))
	}
}

// pieces does an event; a chunk in pieces, as far as its connection is open.
func pieces(d *dice, s *serve.Server, e api.Event) (string, api.Errno) {
	if e.Kind != api.Chunk || len(e.Bytes) == 0 {
		b, no := s.Do(e)
		return string(b), no
	}
	out, first := "", api.OK
	for at := 0; at < len(e.Bytes); {
		to := min(at+1+d.IntN(100), len(e.Bytes))
		b, no := s.Do(api.Event{Kind: api.Chunk, Conn: e.Conn, Bytes: e.Bytes[at:to]})
		out += string(b)
		if at == 0 {
			first = no
		}
		if !slices.Contains(s.Conns(), e.Conn) {
			break
		}
		at = to
	}
	return out, first
}
