package shard_test

import (
	"math"
	"testing"

	"granary/api"
	"granary/store"
)

// now: are all shards at that tick? An item that is touched tells it.
func (w *world) now(must int) {
	w.Helper()
	for _, key := range oneEach(w.Shards()) {
		w.stores("now", key)
		if e := w.entry(key); e.Touched != must {
			w.Errorf("shard %d is at tick %d, not %d", w.Shard(key), e.Touched, must)
		}
	}
}

// P17.5: what the stores refuse is refused of all; else each has ticked.
func TestTick(t *testing.T) {
	for _, shards := range []int{1, 2, 64} {
		w := opened(t, small(), shards, 3)
		one, _ := store.New(small())
		w.now(1)
		for _, n := range []int{0, -1, math.MinInt, 1, 5, 0, 2592000, api.MaxTick, math.MaxInt, 1 << 39, api.MaxTick, api.MaxTick - 1<<39 - 2592007, api.MaxTick - 1<<39 - 2592008, 2, 1, 1, 1, 0, math.MaxInt} {
			must := one.Tick(n)
			if e := w.Tick(n); e != must {
				t.Errorf("Tick(%d) at %d: %v, not %v", n, one.Now(), e, must)
			}
			w.now(one.Now())
		}
		if one.Now() != api.MaxTick {
			t.Errorf("the clock is at %d", one.Now())
		}
	}
}

// P17.5: what is refused changes nothing: nothing is crawled, and no flush comes.
func TestTickRefused(t *testing.T) {
	w := graves(t, 2, 10, 20)
	w.stores("x", oneEach(2)...)
	w.is(flush(1), api.Fine)
	was := w.Len()
	for range 5 {
		if w.Tick(0) != api.ErrArg || w.Tick(-7) != api.ErrArg || w.Tick(api.MaxTick) != api.ErrClock {
			t.Error("a Tick that is none")
		}
	}
	w.len(was)
	w.reads(get(oneEach(2)...), oneEach(2)...)
	w.ticks(1)
	w.reads(get(oneEach(2)...))
}

// P17.5: items expire in all shards at their ticks, and a tick crawls in each.
func TestTickExpires(t *testing.T) {
	const shards = 4
	w := opened(t, wide(), shards, 3)
	keys := oneEach(shards)
	for i, key := range keys {
		w.is(till(set(key, "x"), i+1), api.Stored)
	}
	for i := range keys {
		w.reads(get(keys...), keys[i:]...)
		w.ticks(1)
	}
	w.reads(get(keys...))

	w = opened(t, wide(), shards, 3)
	for n := range shards {
		for _, key := range keysOf(n, shards, 100) {
			w.is(till(set(key, ""), 3), api.Stored)
		}
	}
	w.ticks(2)
	w.len(400)
	w.ticks(1)
	w.len(400 - shards*api.TickLooks)
	w.ticks(1)
	w.len(0)
}

// P17.6: Len is how many are resident, in all shards: the dead too, till they are taken away.
func TestLen(t *testing.T) {
	for _, shards := range []int{1, 2, 3, 64} {
		w := opened(t, wide(), shards, 3)
		sum := 0
		for n := range shards {
			for _, key := range keysOf(n, shards, 1+n%4) {
				w.len(sum)
				w.stores("x", key)
				sum++
				w.len(sum)
				w.stores("y", key)
				w.len(sum)
			}
		}
		for n := range shards {
			w.is(verb(api.Delete, keyOf(n, shards)), api.Deleted)
			sum--
			w.len(sum)
			w.is(verb(api.Delete, keyOf(n, shards)), api.NotFound)
			w.len(sum)
		}
	}
	w := graves(t, 2, 5, 0, 7)
	w.len(12)
	w.reads(get(keyOf(0, 3)))
	w.len(8)
}
