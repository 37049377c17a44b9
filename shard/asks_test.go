package shard_test

import (
	"math"
	"slices"
	"testing"

	"granary/api"
)

// The verbs, by the keys that they use.
var (
	many    = []int{api.Get, api.Gets, api.Gat, api.Gats}
	storing = []int{api.Set, api.Add, api.Replace, api.Append, api.Prepend, api.Cas}
	ofOne   = []int{api.Delete, api.Incr, api.Decr, api.Touch}
	keyless = []int{api.FlushAll, api.Version, api.Verbosity, api.Quit}
)

// takes: how many dead items go with a command? It is done by a shard that crawls over four of its own for each key, so that this tells which shards were asked, and with how many keys.
func takes(t *testing.T, c api.Command, must int, each ...int) {
	t.Helper()
	for _, workers := range counts() {
		w := graves(t, workers, each...)
		was := w.Len()
		a := w.one(c)
		if got := was - w.Len(); got != must {
			t.Errorf("%d workers, %v dead: %s takes %d away, not %d (%s)", workers, each, shown(c), got, must, shown(a))
		}
	}
}

// P17.3: a verb of one key is done by its key's shard, and by no other.
func TestOneKeyAsksItsShard(t *testing.T) {
	for _, v := range slices.Concat(storing, ofOne) {
		left := 0 // what the command itself leaves
		if v == api.Set || v == api.Add {
			left = 1
		}
		for n, key := range oneEach(3) {
			dead := []int{0, 0, 0}
			dead[n] = 20
			takes(t, verb(v, key), 4-left, dead...)
			dead[n], dead[(n+1)%3] = 0, 20
			takes(t, verb(v, key), -left, dead...)
		}
	}
}

// P17.3: a read is done by each shard that has one of its keys, with all of its own keys, and by no other.
func TestManyKeysAskTheirShards(t *testing.T) {
	k := oneEach(3)
	for _, v := range many {
		takes(t, verb(v, k[0]), 4, 50, 50, 50)
		takes(t, verb(v, k[1]), 4, 50, 50, 50)
		takes(t, verb(v, k[1]), 0, 50, 0, 50)
		takes(t, verb(v, k[2], k[0]), 8, 50, 50, 50)
		takes(t, verb(v, k[2], k[0]), 0, 0, 50, 0)
		takes(t, verb(v, k[2], k[0], k[2], k[1], k[2]), 20, 50, 50, 50)
		takes(t, verb(v, k[2], k[0], k[2], k[1], k[2]), 12, 0, 0, 50)
		takes(t, verb(v, k[2], k[0], k[2], k[1], k[2]), 4, 0, 50, 0)
	}
}

// P17.3: every shard does a flush, now or later.
func TestFlushAsksAll(t *testing.T) {
	takes(t, flush(9), 12, 50, 50, 50)
	takes(t, flush(9), 4, 0, 0, 50)
	takes(t, flush(0), 12, 50, 50, 50)
	takes(t, flush(-3), 64*4, slices.Repeat([]int{9}, 64)...)
	for _, shards := range []int{1, 2, 7, 64} {
		w := opened(t, wide(), shards, 4)
		keys := oneEach(shards)
		w.stores("x", keys...)
		w.is(flush(3), api.Fine)
		w.ticks(2)
		w.reads(get(keys...), keys...)
		w.stores("y", keys[0])
		w.ticks(1)
		w.reads(get(keys...))
		w.stores("z", keys...)
		w.is(flush(5), api.Fine)
		w.is(flush(math.MinInt), api.Fine)
		w.reads(get(keys...))
		w.stores("z", keys...)
		w.ticks(9)
		w.reads(get(keys...), keys...)
	}
}

// P17.3: Version, Verbosity and Quit are done by shard 0, whatever stands in their keys.
func TestKeylessAskTheFirst(t *testing.T) {
	for _, c := range []api.Command{verb(api.Version), verb(api.Verbosity), verb(api.Quit), verb(api.Version, keyOf(1, 3)), verb(api.Quit, keyOf(2, 3), "a b", ""), verb(api.Verbosity, "\n")} {
		takes(t, c, 4, 20, 20, 20)
		takes(t, c, 4, 20, 0, 0)
		takes(t, c, 0, 0, 20, 20)
	}
	w := opened(t, small(), 3, 2)
	w.answers(verb(api.Version, "a b"), api.Answer{Kind: api.Told, Text: "granary 1"})
	w.is(verb(api.Verbosity, ""), api.Fine)
	w.is(verb(api.Quit), api.Nothing)
	w.is(verb(api.FlushAll, "", "a b"), api.Fine)
}

// P17.3: the entries of a read stand in the order of the command's keys, those that come twice too.
func TestEntriesInOrder(t *testing.T) {
	for _, shards := range []int{1, 2, 3, 64} {
		w := opened(t, wide(), shards, 5)
		var keys []string
		for n := range shards {
			keys = append(keys, keysOf(n, shards, 3)...)
		}
		w.stores("x", keys...)
		back := slices.Clone(keys)
		slices.Reverse(back)
		for _, v := range many {
			w.reads(verb(v, keys...), keys...)
			w.reads(verb(v, back...), back...)
			twice := slices.Concat(keys, back, keys)
			w.reads(verb(v, twice...), twice...)
			holes := slices.Concat([]string{"none"}, back, []string{"nobody", "none"}, keys, []string{"none"})
			w.reads(verb(v, holes...), slices.Concat(back, keys)...)
			w.reads(verb(v, "none", "nobody", "none"))
		}
	}
}

// P17.3: a key that a gat has made dead hits no more in the same command, while other shards' keys between do.
func TestGatOfOneKeyTwice(t *testing.T) {
	a, b, c := keyOf(0, 3), keyOf(1, 3), keyOf(2, 3)
	for _, v := range []int{api.Gat, api.Gats} {
		for _, workers := range counts() {
			w := opened(t, small(), 3, workers)
			w.stores("x", a, b, c)
			w.reads(till(verb(v, b, a, b, c, a, b), -1), b, a, c)
			w.len(0)
			w.stores("x", a, c)
			told := w.one(till(verb(v, c, b, a, c), 7))
			w.tells(told, c, a, c)
			for _, e := range told.Entries {
				if e.Expiry != 8 {
					t.Errorf("%+v", e)
				}
			}
			if told.Entries[0].Hit || !told.Entries[2].Hit || told.Entries[1].Hit {
				t.Errorf("%+v", told.Entries)
			}
		}
	}
}

// illegal are keys that are none.
func illegal() []string {
	all := []string{"", "a b", " a", "a\x7f", "a\x00", "a\r", "\n", long(251), long(1 << 16)}
	for b := range 33 {
		all = append(all, "k"+string(rune(b)))
	}
	return all
}

// badCommands are those of P10.2. Their other keys are those that are given.
func badCommands(k ...string) (all []api.Command) {
	for _, v := range []int{math.MinInt, -1, 0, api.Stats, api.MetaGet, api.MetaSet, api.MetaDelete, api.MetaArith, api.MetaNoop, 25, 256 + api.Get, math.MaxInt} {
		all = append(all, verb(v), verb(v, k[0]), verb(v, k...), verb(v, k[len(k)-1]))
	}
	for _, v := range slices.Concat(many, storing, ofOne) {
		all = append(all, verb(v), api.Command{Verb: v, Keys: []string{}})
		for _, key := range illegal() {
			all = append(all, verb(v, key))
		}
	}
	for _, v := range many {
		for _, key := range illegal() {
			all = append(all, verb(v, append([]string{key}, k...)...), verb(v, append(slices.Clone(k), key)...), verb(v, slices.Concat(k, []string{key}, k)...))
		}
	}
	for _, v := range slices.Concat(storing, ofOne) {
		all = append(all, verb(v, k...), verb(v, k[0], k[0]), verb(v, k[1], k[0], k[1]))
	}
	for _, v := range storing {
		for _, flags := range []uint64{1 << 32, 1 << 40, math.MaxUint64} {
			for _, key := range k {
				all = append(all, api.Command{Verb: v, Keys: []string{key}, Flags: flags, Token: 1})
			}
		}
	}
	return all
}

// P17.3: a bad command is refused, and nothing is done by it or behind it, in any shard.
func TestBadCommands(t *testing.T) {
	w := graves(t, 3, 30, 30, 30)
	k := oneEach(3)
	w.stores("5", k...)
	must := w.all(gets(k...))[0]
	was := w.Len()
	for _, c := range badCommands(k...) {
		w.refuses(c, bad)
		w.len(was)
		w.refuses(till(c, -1), bad)
		w.len(was)
	}
	got := w.one(gets(k...))
	for i := range got.Entries {
		must.Entries[i].Hit = true
	}
	if !same(got, must) {
		t.Errorf("behind bad commands: %v, not %v", got, must)
	}
}

// P17.3: bad commands among others are refused at their places, and the others go on as without them.
func TestBadAmongOthers(t *testing.T) {
	k := oneEach(3)
	w, twin := opened(t, small(), 3, 4), opened(t, small(), 3, 1)
	var batch, right []api.Command
	for i, c := range badCommands(k...) {
		good := []api.Command{set(k[i%3], long(i%9)), get(k...), till(verb(api.Gat, k[i%3], k[0]), i%4), verb(api.Delete, k[i%2])}[i%4]
		batch = append(batch, c, good, c)
		right = append(right, good)
	}
	got, must := w.all(batch...), twin.all(right...)
	for i := range right {
		if !same(got[3*i+1], must[i]) {
			t.Errorf("%s: %s, not %s", shown(right[i]), shown(got[3*i+1]), shown(must[i]))
		}
		for _, a := range []api.Answer{got[3*i], got[3*i+2]} {
			if !same(a, api.Answer{Kind: api.Refused, Text: bad}) {
				t.Errorf("%s: %s", shown(batch[3*i]), shown(a))
			}
		}
	}
	w.len(twin.Len())
}

// Keys, flags and texts at their bounds are not bad.
func TestNotBad(t *testing.T) {
	w := opened(t, api.Config{PageSize: 4096, Pages: 8, Factor: 200, MinChunk: 64, ItemLimit: 512, Hot: 30, Warm: 30}, 3, 3)
	keys := []string{"!", "~", "\x80", "\xff\xfe", long(250), "\u00fc", "noreply"}
	for _, key := range keys {
		c := set(key, "1")
		c.Flags = math.MaxUint32
		w.is(c, api.Stored)
	}
	for _, v := range many {
		w.reads(verb(v, keys...), keys...)
	}
	for _, v := range keyless {
		if a := w.one(api.Command{Verb: v, Flags: math.MaxUint64, Exptime: 9}); a.Kind == api.Refused {
			t.Errorf("verb %d: %v", v, a)
		}
	}
}
