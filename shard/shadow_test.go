package shard_test

import (
	"slices"
	"testing"

	"granary/api"
	"granary/store"
)

// shadow is what a Store must be: its stores, each called by the chapter's words, one command behind the other.
type shadow struct {
	stores  []*store.Store
	dropped int
}

func shadowOf(t *testing.T, c api.Config, shards int) *shadow {
	t.Helper()
	x := &shadow{}
	for range shards {
		s, e := store.New(c)
		if e != api.OK {
			t.Fatal(e)
		}
		x.stores = append(x.stores, s)
	}
	return x
}

// isKey says P10.2 of a key anew.
func isKey(key string) bool {
	for i := range len(key) {
		if key[i] <= 32 || key[i] == 127 {
			return false
		}
	}
	return len(key) >= 1 && len(key) <= 250
}

// isBad says P10.2 anew.
func isBad(c api.Command) bool {
	if slices.Contains(keyless, c.Verb) {
		return false
	}
	read, stores := slices.Contains(many, c.Verb), slices.Contains(storing, c.Verb)
	if !read && !stores && !slices.Contains(ofOne, c.Verb) {
		return true
	}
	for _, key := range c.Keys {
		if !isKey(key) {
			return true
		}
	}
	return len(c.Keys) == 0 || !read && len(c.Keys) > 1 || stores && c.Flags > 1<<32-1
}

// of are those of a command's keys that are a shard's.
func (x *shadow) of(n int, keys []string) (all []string) {
	for _, key := range keys {
		if slot(key, len(x.stores)) == n {
			all = append(all, key)
		}
	}
	return all
}

// ask does a command in a shard, with tokens as they are told.
func (x *shadow) ask(n int, c api.Command) api.Answer {
	all := uint64(len(x.stores))
	if c.Token%all == uint64(n) {
		c.Token /= all
	} else {
		c.Token = 0
	}
	a := x.stores[n].Do(c)
	x.dropped += x.stores[n].Meter().Dropped
	for i := range a.Entries {
		a.Entries[i].Token = a.Entries[i].Token*all + uint64(n)
	}
	return a
}

// read is P17.3 of a command of many keys.
func (x *shadow) read(c api.Command) api.Answer {
	told := make([][]api.Entry, len(x.stores))
	for n := range x.stores {
		part := c
		part.Keys = x.of(n, c.Keys)
		if len(part.Keys) > 0 {
			told[n] = x.ask(n, part).Entries
		}
	}
	a := api.Answer{Kind: api.Values}
	for _, key := range c.Keys {
		n := slot(key, len(x.stores))
		// A key that has missed hits at none of its later places.
		if len(told[n]) > 0 && told[n][0].Key == key {
			a.Entries = append(a.Entries, told[n][0])
			told[n] = told[n][1:]
		}
	}
	return a
}

// do is P17.3.
func (x *shadow) do(c api.Command) api.Answer {
	switch {
	case isBad(c):
		return api.Answer{Kind: api.Refused, Text: bad}
	case slices.Contains(many, c.Verb):
		return x.read(c)
	case c.Verb == api.FlushAll:
		for n := range x.stores {
			x.ask(n, c)
		}
		return api.Answer{Kind: api.Fine}
	case slices.Contains(keyless, c.Verb):
		return x.ask(0, c)
	}
	return x.ask(slot(c.Keys[0], len(x.stores)), c)
}

func (x *shadow) tick(n int) (e api.Errno) {
	for _, s := range x.stores {
		e = s.Tick(n)
	}
	return e
}

func (x *shadow) len() (sum int) {
	for _, s := range x.stores {
		sum += s.Len()
	}
	return sum
}

// told is the token of a key's item, as it is told.
func (x *shadow) told(key string) uint64 {
	n := slot(key, len(x.stores))
	e, _ := x.stores[n].Find(key)
	return e.Token*uint64(len(x.stores)) + uint64(n)
}

// follows: does a Store answer a batch as its shadow does?
func (w *world) follows(x *shadow, batch []api.Command) {
	w.Helper()
	got := w.all(batch...)
	for i, c := range batch {
		if must := x.do(c); !same(got[i], must) {
			w.Fatalf("command %d of %d: %s: %s, not %s", i, len(batch), shown(c), shown(got[i]), shown(must))
		}
	}
	if w.Len() != x.len() {
		w.Fatalf("Len: %d, not %d", w.Len(), x.len())
	}
}

// shadows runs a Store and its shadow through many batches and ticks, and tells how many items were dropped.
func shadows(t *testing.T, c api.Config, d *dice, shards, workers, batches, most int) int {
	t.Helper()
	w, x := opened(t, c, shards, workers), shadowOf(t, c, shards)
	d.token = x.told
	for range batches {
		if d.IntN(6) == 0 {
			n := pick(d, 1, 1, 2, 5, 0, -1, 1<<41)
			if got, must := w.Tick(n), x.tick(n); got != must {
				t.Fatalf("Tick(%d): %v, not %v", n, got, must)
			}
		}
		w.follows(x, d.batch(most))
	}
	return x.dropped
}

// P17.2 to P17.6, P17.8 and P17.10: each answer is that of the stores, asked one behind the other, in shards that are full, and in such as are not.
func TestShadow(t *testing.T) {
	for i, shards := range []int{1, 2, 3, 5, 16, 64} {
		for k, workers := range []int{1, 2, 4, 16} {
			seed := uint64(100*i + 10*k)
			d := diceOf(seed, 40)
			d.odd = 12
			shadows(t, small(), d, shards, workers, 120, 30)
			shadows(t, wide(), diceOf(seed+1, 300), shards, workers, 60, 120)
			d = diceOf(seed+2, 150*shards)
			d.crowd = true
			if shadows(t, full(), d, shards, workers, 10, 300*min(shards, 8)) == 0 {
				t.Errorf("%d shards: nothing was dropped", shards)
			}
		}
	}
}

// P17.2 under the race detector: workers meet nowhere.
func TestTogetherWorkers(t *testing.T) {
	for i, shards := range []int{2, 7, 64} {
		d := diceOf(uint64(1000+i), 60)
		d.odd = 20
		shadows(t, small(), d, shards, 16, 40, 60)
	}
}

// P17.2: it is not seen how commands are cut into batches.
func TestCutsAreNotSeen(t *testing.T) {
	for _, shards := range []int{1, 3, 64} {
		d := diceOf(uint64(shards), 50)
		d.odd = 15
		var script []api.Command
		for len(script) < 800 {
			script = append(script, d.batch(40)...)
		}
		must := opened(t, small(), shards, 3).all(script...)
		for _, n := range []int{1, 2, 7, 100} {
			w := opened(t, small(), shards, 5)
			var got []api.Answer
			for cut := range slices.Chunk(script, n) {
				got = append(got, w.all(cut...)...)
			}
			for i := range script {
				if !same(got[i], must[i]) {
					t.Fatalf("batches of %d: command %d: %s, not %s", n, i, shown(got[i]), shown(must[i]))
				}
			}
		}
	}
}

// P17.8: Stores that differ in workers alone answer alike.
func TestWorkersAreNotSeen(t *testing.T) {
	for _, shards := range []int{1, 2, 5, 64} {
		var all []*world
		for workers := 1; workers <= 16; workers++ {
			all = append(all, opened(t, small(), shards, workers))
		}
		d := diceOf(uint64(shards), 50*shards)
		d.odd = 15
		for range 20 {
			batch, n := d.batch(100), d.IntN(4)
			must, e := all[0].Do(batch)
			ticked, size := all[0].Tick(n), all[0].Len()
			for k, w := range all[1:] {
				got, no := w.Do(batch)
				if no != e || !slices.EqualFunc(got, must, same) || w.Tick(n) != ticked || w.Len() != size {
					t.Fatalf("%d shards: %d workers answer unlike one: %s, not %s", shards, k+2, shown(got), shown(must))
				}
			}
		}
	}
}

// P17.9 and W9: with one shard Do answers what store.Do answers, command by command: tokens, room and all.
func TestOneShardIsTheStore(t *testing.T) {
	for k, workers := range counts() {
		for i, c := range []api.Config{small(), full(), wide()} {
			d := diceOf(uint64(10*k+i), 250)
			d.odd, d.crowd = 12, i == 1
			w := opened(t, c, 1, workers)
			s, _ := store.New(c)
			d.token = func(key string) uint64 {
				e, _ := s.Find(key)
				return e.Token
			}
			for range 25 {
				batch := d.batch(200)
				got := w.all(batch...)
				for i, c := range batch {
					if must := s.Do(c); !same(got[i], must) {
						t.Fatalf("%s: %s, not %s", shown(c), shown(got[i]), shown(must))
					}
				}
				if w.Len() != s.Len() || w.Tick(1) != s.Tick(1) || w.Len() != s.Len() {
					t.Fatalf("Len: %d, not %d", w.Len(), s.Len())
				}
			}
		}
	}
}
