package shard_test

import (
	"math"
	"slices"
	"strconv"
	"testing"

	"granary/api"
)

// grain is an item of a plain map.
type grain struct {
	value           string
	flags, token    uint64
	expiry, touched int
	hit             bool
	chunk           int
}

// plain is a map of no layer below: what a Store answers where nothing is dropped. A shard is no more to it than a counter of tokens and a cut among them.
type plain struct {
	limit       int
	items       map[string]*grain
	issued, cut []uint64
	now, flush  int // flush: the tick of one that is pending; 0: none is
}

func plainOf(c api.Config, shards int) *plain {
	return &plain{limit: c.ItemLimit, items: map[string]*grain{}, issued: make([]uint64, shards), cut: make([]uint64, shards), now: 1}
}

func (p *plain) shard(key string) int { return slot(key, len(p.issued)) }

// expiry is the tick that a command's time tells.
func (p *plain) expiry(t int) int {
	switch {
	case t == 0:
		return 0
	case t < 0:
		return p.now
	case t <= 2592000:
		return p.now + t
	}
	return t
}

// live is a key's item, if it is live.
func (p *plain) live(key string) *grain {
	g := p.items[key]
	if g == nil || g.expiry > 0 && g.expiry <= p.now || g.token <= p.cut[p.shard(key)] {
		delete(p.items, key)
		return nil
	}
	return g
}

func (p *plain) issue(key string) uint64 {
	p.issued[p.shard(key)]++
	return p.issued[p.shard(key)]
}

// size is an item's.
func size(key string, n int) int { return 58 + len(key) + n }

// chunk is the least of 64, 128 and 256 bytes that has so many.
func chunk(n int) int {
	for _, c := range []int{64, 128} {
		if n <= c {
			return c
		}
	}
	return 256
}

func (p *plain) lay(key, value string, flags uint64, expiry int) api.Answer {
	p.items[key] = &grain{value: value, flags: flags, token: p.issue(key), expiry: expiry, touched: p.now, chunk: chunk(size(key, len(value)))}
	return api.Answer{Kind: api.Stored}
}

func (p *plain) read(c api.Command) api.Answer {
	a := api.Answer{Kind: api.Values}
	for _, key := range c.Keys {
		g := p.live(key)
		if g == nil {
			continue
		}
		e := api.Entry{Key: key, Value: []byte(g.value), Flags: g.flags, Expiry: g.expiry, Token: g.token*uint64(len(p.issued)) + uint64(p.shard(key)), Touched: g.touched, Hit: g.hit}
		g.touched, g.hit = p.now, true
		if c.Verb == api.Gat || c.Verb == api.Gats {
			g.expiry = p.expiry(c.Exptime)
			e.Expiry = g.expiry
		}
		a.Entries = append(a.Entries, e)
	}
	return a
}

func refusal(text string) api.Answer { return api.Answer{Kind: api.Refused, Text: text} }

func (p *plain) store(c api.Command) api.Answer {
	key := c.Keys[0]
	g := p.live(key)
	if c.Large || size(key, len(c.Data)) > p.limit {
		if c.Verb != api.Append && c.Verb != api.Prepend {
			delete(p.items, key)
		}
		return refusal(large)
	}
	switch {
	case c.Verb == api.Add && g != nil, c.Verb != api.Set && c.Verb != api.Add && c.Verb != api.Cas && g == nil:
		return api.Answer{Kind: api.NotStored}
	case c.Verb == api.Cas && g == nil:
		return api.Answer{Kind: api.NotFound}
	case c.Verb == api.Cas && c.Token != g.token*uint64(len(p.issued))+uint64(p.shard(key)):
		return api.Answer{Kind: api.Exists}
	case c.Verb != api.Append && c.Verb != api.Prepend:
		return p.lay(key, string(c.Data), c.Flags, p.expiry(c.Exptime))
	case size(key, len(c.Data)+len(g.value)) > p.limit:
		return refusal(large)
	case c.Verb == api.Append:
		return p.lay(key, g.value+string(c.Data), g.flags, g.expiry)
	}
	return p.lay(key, string(c.Data)+g.value, g.flags, g.expiry)
}

func (p *plain) count(c api.Command) api.Answer {
	key := c.Keys[0]
	g := p.live(key)
	if g == nil {
		return api.Answer{Kind: api.NotFound}
	}
	n, err := strconv.ParseUint(g.value, 10, 64)
	if err != nil || len(g.value) > 20 {
		return refusal(noNumber)
	}
	if c.Verb == api.Incr {
		n += c.Delta
	} else {
		n -= min(n, c.Delta)
	}
	value := strconv.FormatUint(n, 10)
	switch z := size(key, len(value)); {
	case z <= g.chunk:
		g.value, g.token, g.touched, g.hit = value, p.issue(key), p.now, true
	case z > p.limit:
		return refusal(large)
	default:
		p.lay(key, value, g.flags, g.expiry)
	}
	return api.Answer{Kind: api.Number, Number: n}
}

func (p *plain) one(c api.Command) api.Answer {
	key := c.Keys[0]
	g := p.live(key)
	if g == nil {
		return api.Answer{Kind: api.NotFound}
	}
	if c.Verb == api.Delete {
		delete(p.items, key)
		return api.Answer{Kind: api.Deleted}
	}
	g.expiry, g.touched, g.hit = p.expiry(c.Exptime), p.now, true
	return api.Answer{Kind: api.Touched}
}

func (p *plain) do(c api.Command) api.Answer {
	switch {
	case isBad(c):
		return refusal(bad)
	case slices.Contains(many, c.Verb):
		return p.read(c)
	case slices.Contains(storing, c.Verb):
		return p.store(c)
	case c.Verb == api.Incr || c.Verb == api.Decr:
		return p.count(c)
	case slices.Contains(ofOne, c.Verb):
		return p.one(c)
	case c.Verb == api.Version:
		return api.Answer{Kind: api.Told, Text: "granary 1"}
	case c.Verb == api.Quit:
		return api.Answer{Kind: api.Nothing}
	case c.Verb == api.FlushAll && c.Exptime > 0:
		p.flush = p.now + c.Exptime
	case c.Verb == api.FlushAll:
		copy(p.cut, p.issued)
		p.flush = 0
	}
	return api.Answer{Kind: api.Fine}
}

func (p *plain) tick(n int) {
	p.now += n
	if p.flush > 0 && p.flush <= p.now {
		copy(p.cut, p.issued)
		p.flush = 0
	}
}

// P17.10 and W1, W2, W3 (a): where there is room a Store is a map, whatever its shards and workers are; of each shard the tokens are 1, 2, 3 ..
func TestPlainMap(t *testing.T) {
	for i, shards := range []int{1, 2, 3, 8, 64} {
		for k, workers := range []int{1, 3, 16} {
			d := diceOf(uint64(50*i+k), 60)
			d.odd = 25
			w, p := opened(t, wide(), shards, workers), plainOf(wide(), shards)
			d.token = func(key string) uint64 {
				g := p.items[key]
				if g == nil {
					return 0
				}
				return g.token*uint64(shards) + uint64(slot(key, shards))
			}
			for range 100 {
				batch := d.batch(50)
				for i, got := range w.all(batch...) {
					if must := p.do(batch[i]); !same(got, must) {
						t.Fatalf("%d shards, %d workers: %s: %s, not %s", shards, workers, shown(batch[i]), shown(got), shown(must))
					}
				}
				n := pick(d, 1, 1, 1, 3, 40)
				w.ticks(n)
				p.tick(n)
			}
		}
	}
}

// P17.10 and W3: each shard has its own pages and quotas: what fills one drops nothing in another, and a dropped item is one of the same shard.
func TestRoomIsApart(t *testing.T) {
	const shards = 3
	w := opened(t, full(), shards, 2)
	calm := slices.Concat(keysOf(1, shards, 40), keysOf(2, shards, 40))
	w.stores("x", calm...)
	busy := keysOf(0, shards, 1000)
	w.stores("x", busy...)
	w.reads(get(calm...), calm...)
	left := hits(w.one(get(busy...)))
	if len(left) == 0 || len(left) >= 1000 || w.Len() != len(left)+len(calm) {
		t.Errorf("%d of shard 0 are left, %d in all", len(left), w.Len())
	}
	w.refuses(set(keyOf(1, shards), long(199)), large)
	w.reads(get(keyOf(1, shards)))
}

// P17.10 and W3 (c): a refusal for room comes in a shard that has none, and not in one that has.
func TestRefusedForRoom(t *testing.T) {
	const shards = 2
	// Each shard: classes of 64, 256, 1024 and 4096 bytes, a page each, and the last one has one chunk a page.
	c := api.Config{PageSize: 4096, Pages: 4, Factor: 400, MinChunk: 64, ItemLimit: 4096, Hot: 30, Warm: 30}
	w := opened(t, c, shards, 2)
	a := keysOf(0, shards, 4)
	b := keysOf(1, shards, 4)
	for _, key := range a[1:] {
		w.stores(long([]int{1, 150, 900}[slices.Index(a, key)-1]), key)
	}
	w.stores(long(4000), a[0], b[0])
	w.refuses(with(api.Append, a[0], "x"), noRoom)
	w.holds(a[0], long(4000))
	w.refuses(set(a[0], long(4000)), noRoom)
	w.reads(get(a[0], b[0]), b[0])
	w.stores(long(4001), b[0])
	w.holds(b[0], long(4001))
	if n := w.Len(); n != 4 {
		t.Errorf("Len: %d", n)
	}
	w.refuses(by(api.Incr, b[0], math.MaxUint64), noNumber)
}
