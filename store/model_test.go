package store_test

import (
	"math/rand"
	"reflect"
	"slices"
	"strconv"
	"strings"
	"testing"

	"granary/api"
	"granary/store"
)

// pair is a store and what it must be.
type pair struct {
	*world
	must *plain
	rand *rand.Rand
	keys []string
	calm bool // nothing is flushed: so there are many items
}

// same: does the store tell just what it must? All that it holds is gone through now and then.
func (p *pair) same(what any) {
	p.Helper()
	if p.Meter() != p.must.meter || !slices.Equal(p.Why(), p.must.why) {
		p.Fatalf("behind %v: %+v, %d; not %+v, %d", what, p.Meter(), p.Why(), p.must.meter, p.must.why)
	}
	if p.Now() != p.must.now || p.Issued() != p.must.issued || p.Len() != len(p.must.items) {
		p.Fatalf("behind %v: now %d, issued %d, %d items; not %d, %d, %d", what, p.Now(), p.Issued(), p.Len(), p.must.now, p.must.issued, len(p.must.items))
	}
	if p.rand.Intn(6) > 0 {
		return
	}
	if got, must := sightOf(p.Store), p.must.sight(); !reflect.DeepEqual(got, must) {
		p.Fatalf("behind %v: %+v, not %+v", what, got, must)
	}
}

func (p *pair) key() string { return p.keys[p.rand.Intn(len(p.keys))] }

// value is one of many lengths, or a number.
func (p *pair) value() string {
	switch p.rand.Intn(4) {
	case 0:
		return strconv.FormatUint(p.rand.Uint64()>>p.rand.Intn(64), 10)
	case 1:
		return strings.Repeat("9", p.rand.Intn(22))
	case 2:
		return strings.Repeat("v", p.rand.Intn(p.must.config.ItemLimit))
	}
	return strings.Repeat("w", p.rand.Intn(12))
}

func (p *pair) time() int {
	return []int{0, 0, 0, 0, -1, 1, 2, 5, 9, 40, 2592000, 2592001, 1 << 62, -1 << 63}[p.rand.Intn(14)]
}

// command is any one that is not bad.
func (p *pair) command() api.Command {
	c := api.Command{Verb: 1 + p.rand.Intn(api.Touch), Exptime: p.time(), Flags: p.rand.Uint64() >> 32, Data: []byte(p.value()), Keys: []string{p.key()}}
	if p.rand.Intn(3) == 0 {
		c.Verb = api.Set
	}
	if p.rand.Intn(40) == 0 && !p.calm {
		c.Verb = api.FlushAll + p.rand.Intn(4)
		if p.rand.Intn(4) > 0 {
			c.Exptime = 1 + p.rand.Intn(30)
		}
	}
	if c.Verb <= api.Gats {
		for range p.rand.Intn(4) {
			c.Keys = append(c.Keys, p.key())
		}
	}
	c.Large = p.rand.Intn(40) == 0
	c.Delta = p.rand.Uint64() >> p.rand.Intn(64)
	if x := p.must.items[c.Keys[0]]; x != nil && p.rand.Intn(3) > 0 {
		c.Token = x.token
	}
	return c
}

// step does one thing with both.
func (p *pair) step() {
	p.Helper()
	switch n := p.rand.Intn(1000); {
	case n < 890:
		c := p.command()
		if got, must := told(p.Do(c)), told(p.must.Do(c)); !reflect.DeepEqual(got, must) {
			p.Fatalf("Do(%v): %v, not %v", c, got, must)
		}
		p.same(c)
	case n < 920:
		by := 1 + p.rand.Intn(5)
		p.ticks(by)
		p.must.Tick(by)
		p.same("a tick")
	case n < 960:
		key, marks, t, timed := p.key(), 2*p.rand.Intn(4), p.time(), p.rand.Intn(2) == 0
		if got, must := told(p.Stamp(key, marks, t, timed)), p.must.Stamp(key, marks, t, timed); !reflect.DeepEqual(got, must) {
			p.Fatalf("Stamp(%q, %d, %d, %v): %v, not %v", key, marks, t, timed, got, must)
		}
		p.same("a stamp")
	case n < 997:
		key, marks := p.key(), p.rand.Intn(9)
		if got, must := p.Mark(key, marks), p.must.Mark(key, marks); got != must {
			p.Fatalf("Mark(%q, %d): %v", key, marks, got)
		}
		p.same("a mark")
	default:
		p.restore()
	}
}

// restore goes on with what a picture of both makes.
func (p *pair) restore() {
	p.Helper()
	s, e := store.Restore(p.Config(), p.must.pace, p.State(), p.Rows())
	if e != api.OK {
		p.Fatal("Restore:", e)
	}
	p.Store, p.must = s, p.must.restored()
	if got, must := sightOf(p.Store), p.must.sight(); !reflect.DeepEqual(got, must) {
		p.Fatalf("behind a warm start: %+v, not %+v", got, must)
	}
}

// run goes through many steps of a store of that Config and Pace.
func run(t *testing.T, c api.Config, p api.Pace, keys, steps int, seed int64, chunks ...int) {
	t.Helper()
	x := &pair{world: paced(t, c, p), must: plainOf(c, p, chunks...), rand: rand.New(rand.NewSource(seed)), keys: names(keys), calm: keys > 200}
	for range steps {
		x.step()
	}
}

// P10.3 to P10.20: each answer, and all that is told behind it, to the number, in stores that are full, and in such as are not, of many paces.
func TestModel(t *testing.T) {
	paces := []api.Pace{{Buckets: 8, Links: 3, Crawl: 4}, {Buckets: 8, Links: 3}, {}, {Buckets: 1, Links: 1, Crawl: 1}, {Links: 2, Crawl: 9}, {Buckets: 1 << 20, Links: 1 << 20, Crawl: 1 << 20}}
	few := api.Config{PageSize: 4096, Pages: 3, Factor: 400, MinChunk: 512, ItemLimit: 4001, Hot: 1, Warm: 89}
	odd := api.Config{PageSize: 4096, Pages: 3, Factor: 105, MinChunk: 64, ItemLimit: 73, Hot: 60, Warm: 20}
	many := small()
	many.Pages = 30
	for i, p := range paces {
		seed := int64(100 * i)
		run(t, small(), p, 20, 3000, seed, 64, 128, 256)
		run(t, small(), p, 150, 6000, seed+1, 64, 128, 256)
		run(t, full(), p, 400, 8000, seed+2, 64, 128, 256)
		run(t, few, p, 12, 6000, seed+3, 512, 2048, 4008)
		run(t, odd, p, 300, 6000, seed+4, 64, 72, 80)
		run(t, many, p, 1500, 6000, seed+5, 64, 128, 256)
	}
}
