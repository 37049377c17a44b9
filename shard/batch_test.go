package shard_test

import (
	"runtime"
	"slices"
	"strconv"
	"testing"
	"time"

	"granary/api"
)

// P17.2: one command too many: nothing is done.
func TestLongBatch(t *testing.T) {
	for _, shards := range []int{1, 2, 64} {
		w := graves(t, 3, slices.Repeat([]int{8}, shards)...)
		key := keyOf(0, shards)
		w.stores("x", key)
		was := w.Len()
		for _, c := range []api.Command{set("other", "y"), verb(api.Delete, key), flush(0), verb(api.Version), get(key), {}} {
			for _, n := range []int{api.MaxBatch + 1, api.MaxBatch + 2, 1 << 18} {
				if a, e := w.Do(slices.Repeat([]api.Command{c}, n)); e != api.ErrLong || len(a) != 0 {
					t.Errorf("%d commands: %d answers, %v", n, len(a), e)
				}
			}
		}
		w.len(was)
		w.holds(key, "x")
		if e := w.entry(key); e.Touched != 2 || e.Token != uint64(shards*(8+api.TickLooks+1)) {
			t.Errorf("behind long batches: %+v", e)
		}
		w.reads(get("other"))
	}
}

// P17.2: as many commands as there may be, each answered at its place.
func TestLongestBatch(t *testing.T) {
	for _, shards := range []int{1, 3, 64} {
		w := opened(t, small(), shards, 16)
		batch := make([]api.Command, api.MaxBatch)
		for i := range batch {
			batch[i] = by(api.Incr, "n"+strconv.Itoa(i%100), 1)
		}
		for i := range 100 {
			batch[i] = set("n"+strconv.Itoa(i), "0")
		}
		for i, a := range w.all(batch...) {
			must := api.Answer{Kind: api.Number, Number: uint64(i / 100)}
			if i < 100 {
				must = api.Answer{Kind: api.Stored}
			}
			if !same(a, must) {
				t.Fatalf("command %d: %v, not %v", i, a, must)
			}
		}
		w.len(100)
	}
}

// P17.2: so many flushes, each of which every shard does.
func TestLongestBatchOfFlushes(t *testing.T) {
	w := opened(t, small(), 8, 5)
	w.stores("x", oneEach(8)...)
	for _, a := range w.all(slices.Repeat([]api.Command{flush(0)}, api.MaxBatch)...) {
		if !same(a, api.Answer{Kind: api.Fine}) {
			t.Fatalf("%v", a)
		}
	}
	w.len(0)
}

// P17.2: one answer for each command, in the batch's order, each seeing all that stand ahead of it and none behind it.
func TestOrder(t *testing.T) {
	for _, shards := range []int{1, 2, 5, 64} {
		for _, workers := range counts() {
			w := opened(t, wide(), shards, workers)
			keys := oneEach(shards)
			var batch []api.Command
			for i := range keys {
				batch = append(batch, get(keys...), set(keys[i], strconv.Itoa(i)))
			}
			batch = append(batch, get(keys...), flush(0), get(keys...), verb(api.Version), verb(api.Quit), verb(0))
			told := w.all(batch...)
			for i := range keys {
				w.tells(told[2*i], keys[:i]...)
				if !same(told[2*i+1], api.Answer{Kind: api.Stored}) {
					t.Errorf("a Set is answered %v", told[2*i+1])
				}
			}
			rest := told[2*shards:]
			w.tells(rest[0], keys...)
			for i, e := range rest[0].Entries {
				if string(e.Value) != strconv.Itoa(i) {
					t.Errorf("%q is %q", e.Key, e.Value)
				}
			}
			w.tells(rest[2])
			for i, must := range []api.Answer{{Kind: api.Told, Text: "granary 1"}, {Kind: api.Nothing}, {Kind: api.Refused, Text: bad}} {
				if !same(rest[3+i], must) {
					t.Errorf("%v, not %v", rest[3+i], must)
				}
			}
		}
	}
}

// P17.2: a quit ends nothing here: what stands behind it is done.
func TestBehindQuit(t *testing.T) {
	w := opened(t, small(), 2, 2)
	told := w.all(verb(api.Quit), set("a", "x"), verb(api.Quit), get("a"))
	w.tells(told[3], "a")
}

// P17.2: noreply is not looked at.
func TestNoreply(t *testing.T) {
	w := opened(t, small(), 3, 2)
	for _, x := range []struct {
		c    api.Command
		kind int
	}{
		{set("a", "5"), api.Stored},
		{verb(api.Touch, "a"), api.Touched},
		{verb(api.Delete, "a"), api.Deleted},
		{verb(api.Delete, "a"), api.NotFound},
		{flush(0), api.Fine},
		{verb(api.Verbosity), api.Fine},
	} {
		x.c.Noreply = true
		w.is(x.c, x.kind)
	}
}

// settles waits till there are no more goroutines than there were: one that has done its last may still be counted for a moment.
func settles(n int) bool {
	for range 2000 {
		if runtime.NumGoroutine() <= n {
			return true
		}
		time.Sleep(time.Millisecond)
	}
	return false
}

// P17.2: no goroutine that Do began goes on, and none waits for a next batch.
func TestGoroutinesEnd(t *testing.T) {
	ahead := runtime.NumGoroutine()
	for _, shards := range []int{1, 2, 64} {
		for _, workers := range counts() {
			w := opened(t, small(), shards, workers)
			keys := oneEach(shards)
			for _, batch := range [][]api.Command{nil, {get(keys[0])}, {get(keys...)}, {flush(0), flush(3)}, {verb(0)}, sets("x", keys...), make([]api.Command, api.MaxBatch+1)} {
				for range 20 {
					w.Do(batch)
				}
			}
			w.Tick(1)
			w.Tick(-1)
			w.Len()
		}
	}
	if !settles(ahead) {
		t.Errorf("%d goroutines go on, there were %d", runtime.NumGoroutine(), ahead)
	}
}
