package shard_test

import (
	"math"
	"testing"

	"granary/api"
)

// P17.4: the token t of shard s is told as t * Shards + s, in the entries of every read.
func TestTokensTold(t *testing.T) {
	for _, shards := range []int{1, 2, 3, 10, 64} {
		w := opened(t, wide(), shards, 3)
		for n := range shards {
			for i, key := range keysOf(n, shards, 3) {
				w.stores("7", key)
				must := uint64((i+1)*shards + n)
				for _, v := range many {
					if e := w.one(verb(v, key)).Entries[0]; e.Token != must {
						t.Errorf("token %d of shard %d of %d is told as %d", i+1, n, shards, e.Token)
					}
				}
			}
			key := keyOf(n, shards)
			w.answers(by(api.Incr, key, 1), api.Answer{Kind: api.Number, Number: 8})
			w.is(with(api.Append, key, "0"), api.Stored)
			w.is(verb(api.Touch, key), api.Touched)
			if e := w.entry(key); e.Token != uint64(5*shards+n) || string(e.Value) != "80" {
				t.Errorf("the fifth mutation of shard %d of %d: %+v", n, shards, e)
			}
		}
	}
}

// P17.4: over all keys no token comes twice, and on one key they rise.
func TestTokensUnlike(t *testing.T) {
	const shards = 5
	w := opened(t, wide(), shards, 3)
	seen, last := map[uint64]string{}, map[string]uint64{}
	for i := range 40 {
		for n := range shards {
			for _, key := range keysOf(n, shards, 1+(i+n)%3) {
				w.stores("x", key)
				token := w.entry(key).Token
				if seen[token] != "" || token <= last[key] {
					t.Fatalf("token %d of %q, behind %d, is one of %q", token, key, last[key], seen[token])
				}
				seen[token], last[key] = key, token
			}
		}
	}
}

// P17.4: a Cas stores just with the token that was told of the key's latest mutation.
func TestTokensAsked(t *testing.T) {
	for _, shards := range []int{1, 2, 3, 64} {
		w := opened(t, wide(), shards, 3)
		keys := oneEach(shards)
		for range 3 {
			w.stores("x", keys...)
		}
		for _, key := range keys {
			own := w.entry(key).Token
			for token := range own + uint64(2*shards) {
				if token != own {
					w.is(cas(key, "y", token), api.Exists)
				}
			}
			for _, token := range []uint64{math.MaxUint64, math.MaxUint64 - 1, 1 << 63, 1 << 32, own + uint64(shards)<<40, own << 32} {
				if token != own {
					w.is(cas(key, "y", token), api.Exists)
				}
			}
			w.holds(key, "x")
			w.is(cas(key, "y", own), api.Stored)
			w.holds(key, "y")
			w.is(cas(key, "z", own), api.Exists)
			w.is(cas(key, "z", own+uint64(shards)), api.Stored)
			w.is(verb(api.Delete, key), api.Deleted)
			w.is(cas(key, "z", own+2*uint64(shards)), api.NotFound)
			w.is(cas(key, "z", 0), api.NotFound)
		}
	}
}

// P17.4: the token that stands in other commands changes nothing.
func TestTokensElsewhere(t *testing.T) {
	for _, token := range []uint64{0, 1, 2, 5, math.MaxUint64} {
		w := opened(t, small(), 3, 2)
		for _, key := range oneEach(3) {
			for _, c := range []api.Command{set(key, "5"), with(api.Replace, key, "6"), with(api.Append, key, "7"), verb(api.Touch, key), get(key), by(api.Decr, key, 1)} {
				c.Token = token
				if a := w.one(c); a.Kind == api.Exists || a.Kind == api.NotFound || a.Kind == api.Refused {
					t.Errorf("%v: %v", c, a)
				}
			}
			w.holds(key, "66")
		}
	}
}

// P17.4 and W2: a mutation in one shard issues no token in another.
func TestTokensApart(t *testing.T) {
	w := opened(t, wide(), 2, 2)
	a, b := keyOf(0, 2), keyOf(1, 2)
	for range 100 {
		w.stores("x", a)
	}
	w.stores("x", b)
	if one, two := w.entry(a).Token, w.entry(b).Token; one != 200 || two != 3 {
		t.Errorf("%d and %d", one, two)
	}
	w.is(cas(b, "y", 201), api.Exists)
	w.is(cas(b, "y", 200), api.Exists)
	w.is(cas(a, "y", 3), api.Exists)
}
