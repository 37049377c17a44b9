package shard_test

import (
	"fmt"
	"hash/fnv"
	"reflect"
	"slices"
	"strings"
	"testing"

	"granary/api"
	"granary/shard"
)

// What is refused, said anew.
const (
	bad      = "bad command"
	large    = "object too large for cache"
	noRoom   = "out of memory storing object"
	noNumber = "cannot increment or decrement non-numeric value"
)

// small has classes of 64, 128 and 256 bytes; 64, 32 and 16 a page.
func small() api.Config {
	return api.Config{PageSize: 4096, Pages: 4, Factor: 200, MinChunk: 64, ItemLimit: 256, Hot: 30, Warm: 30}
}

// full is small without a page to spare: each class can have just one.
func full() api.Config {
	c := small()
	c.Pages = 3
	return c
}

// wide has the same classes, and more room than any script here fills.
func wide() api.Config {
	c := small()
	c.PageSize, c.Pages = 1<<16, 8
	return c
}

// slot is a key's shard, said anew.
func slot(key string, shards int) int {
	f := fnv.New64a()
	f.Write([]byte(key))
	h := f.Sum64()
	h = (h ^ h>>30) * 0xBF58476D1CE4E5B9
	h = (h ^ h>>27) * 0x94D049BB133111EB
	h ^= h >> 31
	return int(h % uint64(shards))
}

// keysOf are the first n keys of a shard.
func keysOf(shard, shards, n int) (all []string) {
	for i := 0; len(all) < n; i++ {
		if key := fmt.Sprintf("k%d", i); slot(key, shards) == shard {
			all = append(all, key)
		}
	}
	return all
}

// keyOf is the first key of a shard.
func keyOf(shard, shards int) string { return keysOf(shard, shards, 1)[0] }

// oneEach is a key of each shard.
func oneEach(shards int) (all []string) {
	for n := range shards {
		all = append(all, keyOf(n, shards))
	}
	return all
}

// verb is a command of some keys and no more.
func verb(v int, keys ...string) api.Command { return api.Command{Verb: v, Keys: keys} }

func get(keys ...string) api.Command { return verb(api.Get, keys...) }

func gets(keys ...string) api.Command { return verb(api.Gets, keys...) }

// with is a command of one key that has data.
func with(v int, key, data string) api.Command {
	return api.Command{Verb: v, Keys: []string{key}, Data: []byte(data)}
}

func set(key, data string) api.Command { return with(api.Set, key, data) }

// sets are commands that set keys to one value.
func sets(data string, keys ...string) (all []api.Command) {
	for _, key := range keys {
		all = append(all, set(key, data))
	}
	return all
}

// till gives a command its time.
func till(c api.Command, exptime int) api.Command {
	c.Exptime = exptime
	return c
}

func cas(key, data string, token uint64) api.Command {
	c := with(api.Cas, key, data)
	c.Token = token
	return c
}

func by(v int, key string, delta uint64) api.Command {
	c := verb(v, key)
	c.Delta = delta
	return c
}

func flush(exptime int) api.Command { return till(verb(api.FlushAll), exptime) }

func long(n int) string { return strings.Repeat("x", n) }

// plainly is an answer with empty lists made nil.
func plainly(a api.Answer) api.Answer {
	if len(a.Entries) == 0 {
		a.Entries = nil
	}
	if len(a.Stats) == 0 {
		a.Stats = nil
	}
	a.Entries = slices.Clone(a.Entries)
	for i := range a.Entries {
		if len(a.Entries[i].Value) == 0 {
			a.Entries[i].Value = nil
		}
	}
	return a
}

// shown is a command or an answer as a failing test tells it: keys and values may be very long.
func shown(x any) string { return fmt.Sprintf("%.400s", fmt.Sprint(x)) }

func same(a, b api.Answer) bool { return reflect.DeepEqual(plainly(a), plainly(b)) }

// world is a Store with what a test asks of it.
type world struct {
	*testing.T
	*shard.Store
}

func opened(t *testing.T, c api.Config, shards, workers int) *world {
	t.Helper()
	s, e := shard.New(c, shards, workers)
	if e != api.OK || s == nil {
		t.Fatalf("New(%v, %d, %d): %v", c, shards, workers, e)
	}
	return &world{t, s}
}

// all does a batch.
func (w *world) all(batch ...api.Command) []api.Answer {
	w.Helper()
	a, e := w.Do(batch)
	if e != api.OK || len(a) != len(batch) {
		w.Fatalf("Do of %d commands: %d answers, %v", len(batch), len(a), e)
	}
	return a
}

// one does a batch of one command.
func (w *world) one(c api.Command) api.Answer {
	w.Helper()
	return w.all(c)[0]
}

// answers: is a command answered so?
func (w *world) answers(c api.Command, must api.Answer) {
	w.Helper()
	if got := w.one(c); !same(got, must) {
		w.Errorf("%s: %s, not %s", shown(c), shown(got), shown(must))
	}
}

func (w *world) is(c api.Command, kind int) {
	w.Helper()
	w.answers(c, api.Answer{Kind: kind})
}

func (w *world) refuses(c api.Command, text string) {
	w.Helper()
	w.answers(c, api.Answer{Kind: api.Refused, Text: text})
}

// stores: are all keys set to that value?
func (w *world) stores(data string, keys ...string) {
	w.Helper()
	for _, a := range w.all(sets(data, keys...)...) {
		if !same(a, api.Answer{Kind: api.Stored}) {
			w.Errorf("a Set is answered %v", a)
		}
	}
}

// hits are the keys that an answer tells.
func hits(a api.Answer) (all []string) {
	for _, e := range a.Entries {
		all = append(all, e.Key)
	}
	return all
}

// tells: does an answer tell the items of these keys, and nothing beside them?
func (w *world) tells(a api.Answer, keys ...string) {
	w.Helper()
	if got := hits(a); !slices.Equal(got, keys) || !same(a, api.Answer{Kind: api.Values, Entries: a.Entries}) {
		w.Errorf("%s, not the items of %.400q", shown(a), keys)
	}
}

// reads: does a command tell the items of these keys?
func (w *world) reads(c api.Command, keys ...string) {
	w.Helper()
	w.tells(w.one(c), keys...)
}

// entry is what a Gets tells of a key.
func (w *world) entry(key string) api.Entry {
	w.Helper()
	a := w.one(gets(key))
	if len(a.Entries) != 1 {
		w.Fatalf("Gets %q: %v", key, a)
	}
	return a.Entries[0]
}

// holds: has a key this value?
func (w *world) holds(key, value string) {
	w.Helper()
	if got := string(w.entry(key).Value); got != value {
		w.Errorf("%q is %q, not %q", key, got, value)
	}
}

func (w *world) ticks(n int) {
	w.Helper()
	if e := w.Tick(n); e != api.OK {
		w.Fatalf("Tick(%d): %v", n, e)
	}
}

// len: are so many items resident?
func (w *world) len(must int) {
	w.Helper()
	if got := w.Len(); got != must {
		w.Errorf("Len: %d, not %d", got, must)
	}
}

// graves lays so many dead items into each shard, which are resident still: a tick takes 64 of each away.
func graves(t *testing.T, workers int, each ...int) *world {
	t.Helper()
	w := opened(t, wide(), len(each), workers)
	sum := 0
	for n, dead := range each {
		sum += dead
		if dead == 0 {
			continue
		}
		for _, key := range keysOf(n, len(each), api.TickLooks+dead) {
			w.is(till(set(key, ""), 1), api.Stored)
		}
	}
	w.ticks(1)
	w.len(sum)
	return w
}
