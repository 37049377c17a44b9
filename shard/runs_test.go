package shard_test

import (
	"sync"
	"testing"

	"granary/api"
	"granary/shard"
)

// counts are the numbers of workers that a test goes through.
func counts() []int { return []int{1, 2, 3, 7, 16} }

// The chapter's runs: Shards 2; a is a key of shard 0, b one of shard 1.
func TestRuns(t *testing.T) {
	a, b := keyOf(0, 2), keyOf(1, 2)
	for _, workers := range counts() {
		w := opened(t, small(), 2, workers)
		told := w.all(set(a, "x"), get(a, b), set(b, "y"), get(a, b))
		if told[0].Kind != api.Stored || told[2].Kind != api.Stored {
			t.Errorf("%v", told)
		}
		w.tells(told[1], a)
		w.tells(told[3], a, b)
		w.reads(get(b, a, b), b, a, b)

		w = opened(t, small(), 2, workers)
		told = w.all(set(a, "x"), flush(0), set(b, "y"), get(a, b))
		if !same(told[0], api.Answer{Kind: api.Stored}) || !same(told[1], api.Answer{Kind: api.Fine}) || !same(told[2], api.Answer{Kind: api.Stored}) {
			t.Errorf("%v", told)
		}
		w.tells(told[3], b)

		w = opened(t, small(), 2, workers)
		w.stores("x", a)
		if token := w.entry(a).Token; token != 2 {
			t.Errorf("the first token of shard 0 is told as %d", token)
		}
		w.is(cas(a, "z", 3), api.Exists)
		w.is(cas(a, "z", 2), api.Stored)
		if told, e := w.Do(nil); len(told) != 0 || e != api.OK {
			t.Errorf("Do of nothing: %v, %v", told, e)
		}
		if told, e := w.Do([]api.Command{}); len(told) != 0 || e != api.OK {
			t.Errorf("Do of an empty batch: %v, %v", told, e)
		}
	}
	for _, x := range [][2]int{{65, 1}, {1, 0}} {
		if s, e := shard.New(small(), x[0], x[1]); s != nil || e != api.ErrArg {
			t.Errorf("New(c, %d, %d): %v", x[0], x[1], e)
		}
	}
}

// The chapter's run of two goroutines.
func TestTogetherRun(t *testing.T) {
	for _, workers := range counts() {
		w := opened(t, small(), 2, workers)
		w.stores("0", "n")
		var all sync.WaitGroup
		for range 2 {
			all.Go(func() {
				for range 100 {
					w.Do([]api.Command{by(api.Incr, "n", 1)})
				}
			})
		}
		all.Wait()
		w.holds("n", "200")
	}
}

// The chapter's examples.
func TestExamples(t *testing.T) {
	w := opened(t, small(), 2, 3)
	b := keyOf(1, 2)
	w.stores("y", b)
	if token := w.entry(b).Token; token != 3 {
		t.Errorf("the first token of shard 1 is told as %d", token)
	}

	w = opened(t, small(), 1, 3)
	for n := range 50 {
		key := long(1 + n*7%50)
		w.stores("y", key)
		if w.Shard(key) != 0 || w.entry(key).Token != uint64(n+1) {
			t.Errorf("mutation %d of the one shard: %v", n+1, w.entry(key))
		}
	}

	w = opened(t, small(), 3, 3)
	c := keysOf(2, 3, 3)
	w.stores("y", c...)
	if token := w.entry(c[1]).Token; token != 8 {
		t.Errorf("the second token of shard 2 is told as %d", token)
	}
	w.is(cas(c[1], "z", 7), api.Exists)
	w.is(cas("none", "z", 7), api.NotFound)
	w.is(cas(c[1], "z", 8), api.Stored)
}
