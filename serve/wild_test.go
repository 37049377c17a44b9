package serve_test

import (
	"bytes"
	"math"
	"testing"

	"granary/api"
)

// wild is any event at all.
func wild(d *dice) api.Event {
	e := api.Event{
		Kind: pick(d, api.Open, api.Close, api.Chunk, api.Chunk, api.Chunk, api.Chunk, api.Tick, d.IntN(9)-2, math.MinInt, math.MaxInt),
		Conn: pick(d, d.IntN(8), d.IntN(8), -1, math.MinInt, math.MaxInt),
		N:    pick(d, 1, 2, 1000, -1, 0, 1<<39, 1<<40, math.MinInt, math.MaxInt),
	}
	switch d.IntN(4) {
	case 0:
		e.Bytes = []byte(garbage(d))
	case 1:
		e.Bytes = make([]byte, d.IntN(3000))
		for i := range e.Bytes {
			e.Bytes[i] = byte(d.IntN(256))
		}
	case 2:
		e.Bytes = []byte(d.command() + d.command())
	}
	return e
}

// R1, R3: whatever events come, every call ends, none panics; with an error there are no bytes; and what is told is what the shadow tells.
func TestWild(t *testing.T) {
	for seed := range uint64(100) {
		d := diceOf(seed)
		d.odd, d.crowd = 4, pick(d, false, true)
		p := pick(d, usual(), slow(), api.Pace{})
		c := pick(d, small(), tight(), wide())
		s, x := paced(t, c, p, 0), shadowOf(t, c, p)
		for i := range 400 {
			e := wild(d)
			got, no := s.Do(e)
			must, but := x.do(e)
			if no != but || !bytes.Equal(got, must) || no != api.OK && len(got) != 0 {
				t.Fatalf("seed %d, event %d, %d on %d, %.300q: %.900q, %v, not %.900q, %v", seed, i, e.Kind, e.Conn, e.Bytes, got, no, must, but)
			}
		}
	}
}

// Any bytes at all, fed to a server, byte by byte as in one chunk.
func FuzzBytes(f *testing.F) {
	for _, text := range []string{mixed, "", "get a", "\r\n", lines("set a 0 0 2147483647|xx|"), lines("quit|get a|"), many(5000), lines("mg a v|ms a 1|x|md a|ma a|mn|stats|")} {
		f.Add([]byte(text))
	}
	f.Fuzz(func(t *testing.T, raw []byte) {
		if len(raw) > 1<<14 {
			return
		}
		one, two := opened(t, 1), opened(t, 1)
		b, _ := one.Do(api.Event{Kind: api.Chunk, Conn: 1, Bytes: raw})
		var all []byte
		for i := range raw {
			p, _ := two.Do(api.Event{Kind: api.Chunk, Conn: 1, Bytes: raw[i : i+1]})
			all = append(all, p...)
		}
		if !bytes.Equal(b, all) {
			t.Errorf("%q is told %q in one, %q byte by byte", raw, b, all)
		}
		alike(t, "both", one, two, opening(), chunk(2, "stats|gets a b c|"))
	})
}
