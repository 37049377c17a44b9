package serve_test

import (
	"regexp"
	"slices"
	"testing"

	"granary/api"
	"granary/words"
)

// badLines is the one line of stats that tells of malformed bytes.
var badLines = regexp.MustCompile(`STAT bad_lines \d+\r\n`)

// rights are the bytes of the steps that some bytes complete behind others, but for those that are wrong.
func rights(ahead, now []byte, limit int) []byte {
	var out []byte
	raw := slices.Concat(ahead, now)
	steps, _ := words.All(raw, limit)
	for _, s := range steps {
		if s.To > len(ahead) && s.Wrong.Kind == 0 {
			out = append(out, raw[s.From:s.To]...)
		}
	}
	return out
}

// W8: whatever comes on connection 1, connections 2 and 3 are told what they would be told, if only its right commands came.
func TestHarmless(t *testing.T) {
	for seed := range uint64(80) {
		d := diceOf(seed)
		d.crowd = pick(d, false, true)
		got, must := opened(t, 3), opened(t, 3)
		var sent []byte
		for i := range 200 {
			if d.IntN(2) == 0 {
				d.odd = pick(d, 2, 5, 20)
				b := []byte(garbage(d))
				d.odd = 0
				got.Do(api.Event{Kind: api.Chunk, Conn: 1, Bytes: b})
				must.Do(api.Event{Kind: api.Chunk, Conn: 1, Bytes: rights(sent, b, 256)})
				sent = append(sent, b...)
				continue
			}
			e := chunk(2+d.IntN(2), d.command())
			g, _ := got.Do(e)
			m, _ := must.Do(e)
			if badLines.ReplaceAllString(string(g), "") != badLines.ReplaceAllString(string(m), "") {
				t.Fatalf("seed %d, event %d: %.200q is told %.900q, not %.900q", seed, i, e.Bytes, g, m)
			}
		}
	}
}

// garbage is any bytes, and commands of which much is wrong.
func garbage(d *dice) string {
	switch d.IntN(4) {
	case 0:
		b := make([]byte, d.IntN(60))
		for i := range b {
			b[i] = byte(pick(d, d.IntN(256), '\n', '\r', ' ', 'a', 's', '0'))
		}
		return string(b)
	case 1:
		return pick(d, many(3000), "\n", "\r\n", "set a 0 0 ", "set a 0 0 5\r\nab", "set a 0 0 -1\r\n", "set a 0 0 300\r\n", "ms a 5 z\r\n", "\x00\xff\n")
	}
	return d.command()
}

// W8, P16.7: half a line or half a block of one connection is nothing to another.
func TestHalves(t *testing.T) {
	for _, half := range []string{"get a", "set a 0 0 9|xx", "set a 0 0 999|", many(3000), "set a x 0 9|", "set a 0 0 1|xy", "\r", "set a 0 0 1|x\r"} {
		s := opened(t, 2)
		told(t, s, 2, "set a 0 0 1|o|", "STORED|")
		told(t, s, 1, half, "")
		told(t, s, 2, "get a|set b 0 0 1|p|get b|", "VALUE a 0 1|o|END|STORED|VALUE b 0 1|p|END|")
		if s.Holds(2) != 0 {
			t.Errorf("%.40q of another connection is held: %d", half, s.Holds(2))
		}
		does(t, s, closing(1), "")
		told(t, s, 2, "get a|", "VALUE a 0 1|o|END|")
	}
}

// W10: of many connections that ask for an item which is stale just one has won, till its next mutation.
func TestOneWinner(t *testing.T) {
	s := opened(t, 9)
	told(t, s, 1, "ms a 1|x|md a I|", "HD|HD|")
	told(t, s, 5, "get a|touch a 9|gat 9 a|", "VALUE a 0 1|x|END|TOUCHED|VALUE a 0 1|x|END|")
	told(t, s, 7, "mg a v|", "VA 1 X W|x|")
	for n := 1; n <= 9; n++ {
		told(t, s, n, "mg a v|", "VA 1 X Z|x|")
	}
	told(t, s, 7, "ms a 1|y|", "HD|")
	for n := 1; n <= 9; n++ {
		told(t, s, n, "mg a v|", "VA 1|y|")
	}
	told(t, s, 3, "mg b N9 v|", "VA 0 W||")
	for n := 1; n <= 9; n++ {
		told(t, s, n, "mg b N9 v|", "VA 0 Z||")
	}
}

// W2: tokens are of the store, whichever connection stores.
func TestTokens(t *testing.T) {
	s := opened(t, 3)
	for n := 1; n <= 30; n++ {
		conn := 1 + n%3
		told(t, s, conn, "set k"+digits(n%4)+" 0 0 1|x|gets k"+digits(n%4)+"|", "STORED|VALUE k"+digits(n%4)+" 0 1 "+digits(n)+"|x|END|")
	}
	told(t, s, 1, "cas k2 0 0 1 29|y|cas k2 0 0 1 30|y|cas k2 0 0 1 30|y|", "EXISTS|STORED|EXISTS|")
	told(t, s, 2, "gets k2 k1|touch k1 0|gat 0 k1|gets k1|", "VALUE k2 0 1 31|y|VALUE k1 0 1 29|x|END|TOUCHED|VALUE k1 0 1|x|END|VALUE k1 0 1 29|x|END|")
}
