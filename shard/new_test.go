package shard_test

import (
	"math"
	"testing"

	"granary/api"
	"granary/shard"
	"granary/store"
)

// configs are right and wrong ones, each wrong in another way.
func configs() []api.Config {
	all := []api.Config{small(), full(), wide(), {}}
	for _, change := range []func(*api.Config){
		func(c *api.Config) { c.PageSize = 4095 },
		func(c *api.Config) { c.PageSize = 1<<20 + 1 },
		func(c *api.Config) { c.Pages = 0 },
		func(c *api.Config) { c.Pages = 2 },
		func(c *api.Config) { c.Pages = 1025 },
		func(c *api.Config) { c.Factor = 104 },
		func(c *api.Config) { c.Factor = 401 },
		func(c *api.Config) { c.MinChunk = 63 },
		func(c *api.Config) { c.MinChunk = 513 },
		func(c *api.Config) { c.ItemLimit = -1 },
		func(c *api.Config) { c.ItemLimit = 4097 },
		func(c *api.Config) { c.Factor, c.ItemLimit = 105, 4096 },
		func(c *api.Config) { c.Hot = -1 },
		func(c *api.Config) { c.Hot, c.Warm = 50, 41 },
		func(c *api.Config) { c.Hot, c.Warm = 50, 40 },
		func(c *api.Config) { c.Pages, c.Hot = 2, -1 },
	} {
		c := small()
		change(&c)
		all = append(all, c)
	}
	return all
}

// makes: does New answer so?
func makes(t *testing.T, c api.Config, shards, workers int, must api.Errno) {
	t.Helper()
	s, e := shard.New(c, shards, workers)
	if e != must || (s != nil) != (must == api.OK) {
		t.Errorf("New(%v, %d, %d): %v, not %v", c, shards, workers, e, must)
	}
	if s != nil && s.Shards() != shards {
		t.Errorf("New(%v, %d, %d) has %d shards", c, shards, workers, s.Shards())
	}
}

// P17.1: the bounds of shards and workers.
func TestNewBounds(t *testing.T) {
	wrong := []int{math.MinInt, -64, -1, 0}
	for _, n := range append(wrong, 65, 66, 128, 1<<32+1, math.MaxInt) {
		for _, workers := range []int{1, 16, 0, 17} {
			makes(t, small(), n, workers, api.ErrArg)
		}
	}
	for _, n := range append(wrong, 17, 18, 64, 1<<32+1, math.MaxInt) {
		for _, shards := range []int{1, 64, 0, 65} {
			makes(t, small(), shards, n, api.ErrArg)
		}
	}
	for _, shards := range []int{1, 2, 3, 63, 64} {
		for _, workers := range []int{1, 2, 15, 16} {
			makes(t, small(), shards, workers, api.OK)
		}
	}
}

// P17.1: what the store refuses; and ahead of that what is wrong with shards and workers.
func TestNewRefused(t *testing.T) {
	seen := map[api.Errno]int{}
	for _, c := range configs() {
		_, must := store.New(c)
		seen[must]++
		for _, shards := range []int{1, 2, 5} {
			makes(t, c, shards, 1, must)
			makes(t, c, shards, 16, must)
		}
		makes(t, c, 0, 1, api.ErrArg)
		makes(t, c, 65, 1, api.ErrArg)
		makes(t, c, 1, 0, api.ErrArg)
		makes(t, c, 1, 17, api.ErrArg)
	}
	if seen[api.OK] == 0 || seen[api.ErrArg] == 0 || seen[api.ErrMany] == 0 || seen[api.ErrSmall] == 0 {
		t.Errorf("not each of the errors was there: %v", seen)
	}
}

// P17.1: all shards are empty, at tick 1, and have issued no token.
func TestNewIsEmpty(t *testing.T) {
	for _, shards := range []int{1, 2, 5, 64} {
		w := opened(t, small(), shards, 4)
		w.len(0)
		keys := oneEach(shards)
		w.reads(get(keys...))
		for n, key := range keys {
			w.is(till(set(key, "x"), 7), api.Stored)
			if e := w.entry(key); e.Touched != 1 || e.Expiry != 8 || e.Token != uint64(shards+n) {
				t.Errorf("shard %d of %d: %+v", n, shards, e)
			}
		}
		w.len(shards)
	}
}

// P17.1: the whole has shards times the pages: each shard has room for what one store has room for, and for no more.
func TestNewHasAllPages(t *testing.T) {
	one, _ := store.New(full())
	room := one.Quota(0)
	for _, shards := range []int{1, 3, 8} {
		w := opened(t, full(), shards, 2)
		for n := range shards {
			keys := keysOf(n, shards, room)
			w.stores("", keys...)
			w.len(room * (n + 1))
			w.reads(get(keys...), keys...)
		}
		for n := range shards {
			w.stores("", keysOf(n, shards, room+1)[room])
			w.len(room * shards)
		}
	}
}

// P17.1: each shard is what store.New makes: its pace, too, so that a command crawls over four items a key.
func TestNewIsPaced(t *testing.T) {
	w := graves(t, 2, 20, 30)
	for i := range 5 {
		w.reads(get(keyOf(0, 2)))
		w.len(50 - 4*(i+1))
	}
	w.reads(get(keyOf(0, 2)))
	w.len(30)
}

// P17.1: Shard, of any text.
func TestShard(t *testing.T) {
	texts := []string{"", "a", "a b", "\x00", "\r\n", "\xff\xfe", long(250), long(251), long(1 << 16), "\u00fc\u00df"}
	d := diceOf(1, 1)
	for range 2000 {
		b := make([]byte, d.IntN(20))
		for i := range b {
			b[i] = byte(d.Uint32())
		}
		texts = append(texts, string(b))
	}
	for shards := 1; shards <= 64; shards++ {
		w := opened(t, small(), shards, 1)
		seen := make([]int, shards)
		for _, text := range texts {
			n := w.Shard(text)
			if n != slot(text, shards) {
				t.Fatalf("Shard(%q) of %d: %d, not %d", text, shards, n, slot(text, shards))
			}
			seen[n]++
		}
		for n, times := range seen {
			if times == 0 {
				t.Errorf("shard %d of %d has no text", n, shards)
			}
		}
	}
}

// R4: Stores that were made apart know nothing of each other.
func TestApart(t *testing.T) {
	one, two := opened(t, small(), 2, 2), opened(t, small(), 2, 2)
	one.stores("x", oneEach(2)...)
	one.ticks(5)
	two.len(0)
	two.reads(get(oneEach(2)...))
	two.stores("y", keyOf(1, 2))
	if e := two.entry(keyOf(1, 2)); e.Token != 3 || e.Touched != 1 {
		t.Errorf("%+v", e)
	}
	two.is(flush(0), api.Fine)
	one.reads(get(oneEach(2)...), oneEach(2)...)
}
