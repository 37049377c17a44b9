package shard_test

import (
	"math"
	"testing"

	"granary/api"
)

// wildKey is any text, mostly none that may be a key.
func wildKey(d *dice) string {
	if d.IntN(3) > 0 {
		return d.key()
	}
	b := make([]byte, pick(d, 0, 1, 2, 9, 250, 251, 3000))
	for i := range b {
		b[i] = byte(d.Uint32())
	}
	return string(b)
}

func wildInt(d *dice) int {
	return pick(d, 0, 1, -1, d.IntN(25), d.Int(), -d.Int(), math.MaxInt, math.MinInt, 1<<32, api.MaxTick)
}

// wild is any command.
func wild(d *dice) api.Command {
	c := api.Command{
		Verb:    pick(d, d.IntN(25), d.IntN(25), d.IntN(25), wildInt(d)),
		Flags:   d.Uint64() >> pick(d, 0, 31, 32, 60),
		Exptime: wildInt(d),
		Token:   d.Uint64() >> pick(d, 0, 32, 60),
		Delta:   d.Uint64(),
		Data:    make([]byte, pick(d, 0, 1, 5, 100, 197, 198, 5000)),
		Noreply: d.IntN(2) == 0,
		Large:   d.IntN(9) == 0,
		Meta:    []api.Flag{{Letter: 'v'}},
		What:    "reset",
	}
	for range pick(d, 0, 1, 1, 1, 2, 7) {
		c.Keys = append(c.Keys, wildKey(d))
	}
	return c
}

// R1 and R4: whatever it is given, each call ends, none panics, and two Stores of unlike workers answer alike, and as the stores do.
func TestWild(t *testing.T) {
	for i, shards := range []int{1, 2, 9, 64} {
		d := diceOf(uint64(i), 30)
		w, x := opened(t, small(), shards, 1+i*5), shadowOf(t, small(), shards)
		for range 150 {
			batch := make([]api.Command, d.IntN(60))
			for k := range batch {
				batch[k] = wild(d)
			}
			w.follows(x, batch)
			n := wildInt(d)
			if n > 1000 && d.IntN(20) > 0 {
				n = 1
			}
			if got, must := w.Tick(n), x.tick(n); got != must {
				t.Fatalf("Tick(%d): %v, not %v", n, got, must)
			}
			if text := wildKey(d); w.Shard(text) != slot(text, shards) {
				t.Fatalf("Shard(%q)", text)
			}
		}
	}
}

// R1: a read of very many keys ends too.
func TestManyKeys(t *testing.T) {
	w := opened(t, wide(), 64, 16)
	d := diceOf(9, 3000)
	var keys []string
	for range 200000 {
		keys = append(keys, d.key())
	}
	half := keysOf(5, 64, 20)
	w.stores("x", half...)
	must := 0
	for _, key := range keys {
		if slot(key, 64) == 5 && w.one(get(key)).Entries != nil {
			must++
		}
	}
	if got := len(w.one(get(keys...)).Entries); got != must || must == 0 {
		t.Errorf("%d hits, not %d", got, must)
	}
}
