package shard_test

import (
	"slices"
	"strconv"
	"sync"
	"testing"

	"granary/api"
)

// rounds is how often each goroutine calls.
const rounds = 150

// together runs functions at one time, each of them several times over, and waits for all.
func together(each int, functions ...func()) {
	var all sync.WaitGroup
	for _, f := range functions {
		for range each {
			all.Go(func() {
				for range rounds {
					f()
				}
			})
		}
	}
	all.Wait()
}

// P17.7: no command is lost, none is done twice: each number is answered once, and to each goroutine they rise.
func TestTogetherCounts(t *testing.T) {
	const callers = 6
	w := opened(t, small(), 3, 4)
	w.stores("0", "n")
	told := make([][]uint64, callers)
	var all sync.WaitGroup
	for i := range callers {
		all.Go(func() {
			for range rounds {
				a, _ := w.Do([]api.Command{by(api.Incr, "n", 1), get("n"), by(api.Incr, "n", 1)})
				if a[0].Number+1 != a[2].Number || string(a[1].Entries[0].Value) != strconv.FormatUint(a[0].Number, 10) {
					t.Errorf("a batch is not whole: %v", a)
				}
				told[i] = append(told[i], a[0].Number, a[2].Number)
			}
		})
	}
	all.Wait()
	for _, row := range told {
		if !slices.IsSorted(row) {
			t.Errorf("%v", row)
		}
	}
	seen := slices.Concat(told...)
	slices.Sort(seen)
	for i, n := range seen {
		if n != uint64(i+1) {
			t.Fatalf("number %d is %d", i+1, n)
		}
	}
}

// P17.7: each batch is whole: over all shards, whoever reads sees the values of one batch, and no batch half done.
func TestTogetherWhole(t *testing.T) {
	const shards = 5
	w := opened(t, wide(), shards, 3)
	keys := oneEach(shards)
	w.stores("0", keys...)
	read := func() {
		a, e := w.Do([]api.Command{get(keys...), get(keys...)})
		for _, x := range slices.Concat(a[0].Entries, a[1].Entries) {
			if e != api.OK || len(a[0].Entries) != shards || len(a[1].Entries) != shards || string(x.Value) != string(a[0].Entries[0].Value) {
				t.Errorf("seen: %v", a)
				return
			}
		}
	}
	write := func(value string, ahead ...api.Command) func() {
		return func() { w.Do(slices.Concat(ahead, sets(value, keys...))) }
	}
	together(2, read, read, write("1"), write("2", flush(0)), write("3", verb(api.Delete, keys[0]), verb(api.Version)), func() { w.Do([]api.Command{get(keys...), verb(0)}) })
}

// P17.7: Len sees no batch half done, and no tick.
func TestTogetherLen(t *testing.T) {
	const shards = 4
	w := opened(t, wide(), shards, 3)
	keys := oneEach(shards)
	w.stores("x", keysOf(0, shards, 9)[8])
	pass := func() {
		batch := sets("y", keys...)
		for _, key := range keys {
			batch = append(batch, verb(api.Delete, key))
		}
		w.Do(batch)
	}
	watch := func() {
		if n := w.Len(); n != 1 {
			t.Errorf("Len: %d", n)
		}
	}
	together(2, pass, pass, watch, watch, func() { w.Tick(1) })
}

// P17.7: no tick comes into a batch, and each comes to all shards at one time.
func TestTogetherTicks(t *testing.T) {
	const shards = 4
	w := opened(t, wide(), shards, 3)
	keys := oneEach(shards)
	look := func() {
		batch := sets("x", keys...)
		for i := range batch {
			batch[i].Exptime = 1
		}
		a, _ := w.Do(append(batch, get(keys...)))
		told := a[shards].Entries
		if len(told) != shards {
			t.Errorf("a tick came into a batch: %v", told)
			return
		}
		for _, e := range told {
			if e.Touched != told[0].Touched || e.Expiry != told[0].Expiry {
				t.Errorf("shards are at unlike ticks: %v", told)
			}
		}
	}
	together(2, look, look, func() { w.Tick(1) }, func() { w.Tick(0) }, func() { w.Len() })
	w.now(1 + 2*rounds)
}

// call is a batch with its answers.
type call struct {
	batch []api.Command
	told  []api.Answer
}

// at is the call's place in the order of all, and its tick: each batch begins with a count, and a look at the clock.
func (c call) at() (uint64, int) { return c.told[0].Number, c.told[2].Entries[0].Touched }

// P17.7: there is an order of all calls, such that all answers are those of that order.
func TestTogetherInSomeOrder(t *testing.T) {
	const shards, callers = 3, 5
	w := opened(t, small(), shards, 4)
	w.stores("0", "n")
	made := make([][]call, callers)
	var all sync.WaitGroup
	for i := range callers {
		d := diceOf(uint64(i), 30)
		d.odd = 30
		all.Go(func() {
			for range rounds {
				// No flush: it would set back the count, by which the order is known.
				script := slices.DeleteFunc(d.batch(12), func(c api.Command) bool { return c.Verb == api.FlushAll })
				batch := append([]api.Command{by(api.Incr, "n", 1), set("clock", ""), get("clock")}, script...)
				told, _ := w.Do(batch)
				made[i] = append(made[i], call{batch, told})
				if d.IntN(5) == 0 {
					w.Tick(1)
				}
				w.Shard("n")
				w.Shards()
			}
		})
	}
	all.Wait()
	calls := slices.Concat(made...)
	slices.SortFunc(calls, func(a, b call) int {
		one, _ := a.at()
		two, _ := b.at()
		return int(one) - int(two)
	})
	twin, now := opened(t, small(), shards, 1), 1
	twin.stores("0", "n")
	for i, c := range calls {
		n, tick := c.at()
		if n != uint64(i+1) || tick < now {
			t.Fatalf("call %d has the count %d at tick %d, behind tick %d", i+1, n, tick, now)
		}
		for ; now < tick; now++ {
			twin.ticks(1)
		}
		if must := twin.all(c.batch...); !slices.EqualFunc(c.told, must, same) {
			t.Fatalf("call %d: %s is answered %s, not %s", i+1, shown(c.batch), shown(c.told), shown(must))
		}
	}
}

// P17.7: a call that ended ahead of another one's beginning comes first.
func TestTogetherInTime(t *testing.T) {
	const shards = 4
	w := opened(t, wide(), shards, 3)
	done := make(chan int)
	var all sync.WaitGroup
	all.Go(func() {
		for i := range rounds {
			w.Do(sets(strconv.Itoa(i), oneEach(shards)...))
			done <- i
		}
		close(done)
	})
	all.Go(func() {
		for i := range done {
			a, _ := w.Do([]api.Command{get(oneEach(shards)...)})
			for _, e := range a[0].Entries {
				if n, _ := strconv.Atoi(string(e.Value)); n < i {
					t.Errorf("%d is read behind %d", n, i)
				}
			}
			if len(a[0].Entries) != shards {
				t.Errorf("%v", a)
			}
		}
	})
	all.Go(func() {
		for range rounds {
			w.Do([]api.Command{get(oneEach(shards)...), verb(api.Version)})
		}
	})
	all.Wait()
}

// P17.7 and R3: calls that are refused disturb none that run at the same time.
func TestTogetherRefused(t *testing.T) {
	w := opened(t, small(), 2, 2)
	w.stores("0", "n")
	tooLong := make([]api.Command, api.MaxBatch+1)
	for i := range tooLong {
		tooLong[i] = set("n", "x")
	}
	together(2, func() { w.Do([]api.Command{by(api.Incr, "n", 1)}) }, func() {
		if a, e := w.Do(tooLong); e != api.ErrLong || len(a) != 0 {
			t.Errorf("%v", e)
		}
	}, func() { w.Tick(-1) }, func() { w.Do(nil) })
	w.holds("n", strconv.Itoa(2*rounds))
}

// R4 and R5: Stores that were made apart don't wait for each other.
func TestTogetherApart(t *testing.T) {
	one, two := opened(t, small(), 2, 2), opened(t, small(), 2, 2)
	one.stores("0", "n")
	two.stores("0", "n")
	together(2, func() { one.Do([]api.Command{by(api.Incr, "n", 1)}) }, func() { two.Do([]api.Command{by(api.Incr, "n", 2)}) })
	one.holds("n", strconv.Itoa(2*rounds))
	two.holds("n", strconv.Itoa(4*rounds))
}
