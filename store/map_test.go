package store_test

import (
	"math/rand"
	"reflect"
	"strconv"
	"testing"

	"granary/api"
	"granary/tide"
)

// table is the plain map of the document: from keys to entries, with a clock and a token counter. It knows no room, no queue and no crawler.
type table struct {
	rows    map[string]*api.Entry
	now     int
	cut     uint64
	pending int
	issued  uint64
	limit   int
}

func (m *table) live(key string) *api.Entry {
	e := m.rows[key]
	if e == nil || e.Expiry > 0 && e.Expiry <= m.now || e.Token <= m.cut {
		delete(m.rows, key)
		return nil
	}
	return e
}

func (m *table) hit(e *api.Entry) { e.Hit, e.Touched = true, m.now }

func (m *table) read(c api.Command) api.Answer {
	a := api.Answer{Kind: api.Values}
	for _, key := range c.Keys {
		e := m.live(key)
		if e == nil {
			continue
		}
		told := *e
		m.hit(e)
		if c.Verb == api.Gat || c.Verb == api.Gats {
			e.Expiry = tide.Expiry(m.now, c.Exptime)
			told.Expiry = e.Expiry
		}
		a.Entries = append(a.Entries, told)
	}
	return a
}

// put issues a token for what a key has from now on.
func (m *table) put(e api.Entry) {
	m.issued++
	e.Token, e.Touched = m.issued, m.now
	m.rows[e.Key] = &e
}

func (m *table) store(c api.Command) api.Answer {
	key := c.Keys[0]
	old := m.live(key)
	joins := c.Verb == api.Append || c.Verb == api.Prepend
	value := string(c.Data)
	if c.Large || 58+len(key)+len(value) > m.limit {
		if !joins {
			delete(m.rows, key)
		}
		return refusal(large)
	}
	switch {
	case c.Verb == api.Cas && old == nil:
		return api.Answer{Kind: api.NotFound}
	case c.Verb == api.Cas && old.Token != c.Token:
		return api.Answer{Kind: api.Exists}
	case c.Verb == api.Add && old != nil, old == nil && (joins || c.Verb == api.Replace):
		return api.Answer{Kind: api.NotStored}
	}
	e := api.Entry{Key: key, Flags: c.Flags, Expiry: tide.Expiry(m.now, c.Exptime)}
	if joins {
		e.Flags, e.Expiry = old.Flags, old.Expiry
	}
	switch c.Verb {
	case api.Append:
		value = string(old.Value) + value
	case api.Prepend:
		value += string(old.Value)
	}
	if 58+len(key)+len(value) > m.limit {
		return refusal(large)
	}
	e.Value = []byte(value)
	m.put(e)
	return api.Answer{Kind: api.Stored}
}

// count: whether the item keeps its marks hangs on its chunk, which the map does not know: so the fields touched and hit are not held against it (see bare).
func (m *table) count(c api.Command) api.Answer {
	e := m.live(c.Keys[0])
	if e == nil {
		return api.Answer{Kind: api.NotFound}
	}
	n, err := strconv.ParseUint(string(e.Value), 10, 64)
	if err != nil || len(e.Value) > 20 {
		return refusal(noNumber)
	}
	if c.Verb == api.Incr {
		n += c.Delta
	} else {
		n -= min(n, c.Delta)
	}
	next := *e
	next.Value = strconv.AppendUint(nil, n, 10)
	m.put(next)
	return api.Answer{Kind: api.Number, Number: n}
}

func (m *table) Do(c api.Command) api.Answer {
	switch {
	case c.Verb <= api.Gats:
		return m.read(c)
	case c.Verb <= api.Cas:
		return m.store(c)
	case c.Verb == api.Incr || c.Verb == api.Decr:
		return m.count(c)
	case c.Verb == api.FlushAll:
		m.pending = 0
		if c.Exptime > 0 {
			m.pending = m.now + c.Exptime
		} else {
			m.cut = m.issued
		}
		return api.Answer{Kind: api.Fine}
	}
	e := m.live(c.Keys[0])
	if e == nil {
		return api.Answer{Kind: api.NotFound}
	}
	if c.Verb == api.Delete {
		delete(m.rows, c.Keys[0])
		return api.Answer{Kind: api.Deleted}
	}
	e.Expiry = tide.Expiry(m.now, c.Exptime)
	m.hit(e)
	return api.Answer{Kind: api.Touched}
}

func (m *table) Tick(n int) {
	m.now += n
	if m.pending > 0 && m.pending <= m.now {
		m.cut, m.pending = m.issued, 0
	}
}

// bare is an answer without what the map does not know.
func bare(a api.Answer) api.Answer {
	a = told(a)
	for i := range a.Entries {
		a.Entries[i].Hit, a.Entries[i].Touched = false, 0
	}
	return a
}

// anyOne is a command of the classic verbs that is not bad.
func anyOne(r *rand.Rand, keys []string, issued uint64) api.Command {
	c := api.Command{Verb: 1 + r.Intn(api.Touch), Keys: []string{keys[r.Intn(len(keys))]}, Flags: r.Uint64() >> 32, Delta: r.Uint64() >> r.Intn(64)}
	c.Exptime = []int{0, 0, 0, 1, 3, 9, 30, -1, 2592000}[r.Intn(9)]
	c.Data = []byte(long(r.Intn(120)))
	if r.Intn(2) == 0 {
		c.Data = strconv.AppendUint(nil, r.Uint64()>>r.Intn(64), 10)
	}
	if issued > 0 {
		c.Token = 1 + r.Uint64()%issued
	}
	if r.Intn(90) == 0 {
		c.Verb, c.Exptime = api.FlushAll, r.Intn(8)-2
	}
	if c.Verb <= api.Gats {
		c.Keys = append(c.Keys, keys[r.Intn(len(keys))], keys[r.Intn(len(keys))])
	}
	c.Large = r.Intn(60) == 0
	return c
}

// W1, W2, W3 (a), W4: where there is room for all, stores of any pace are the plain map: nothing is dropped, nothing refused for room.
func TestMap(t *testing.T) {
	c := small()
	c.Pages = 24 // for each class as many items as there are keys, and one more
	keys := names(120)
	var all []*world
	for _, p := range []api.Pace{{Buckets: 8, Links: 3, Crawl: 4}, {}, {Buckets: 1, Links: 1, Crawl: 1}, {Buckets: 1 << 20, Links: 1 << 20, Crawl: 1 << 20}} {
		all = append(all, paced(t, c, p))
	}
	m := &table{rows: map[string]*api.Entry{}, now: 1, limit: 256}
	r := rand.New(rand.NewSource(11))
	for range 20000 {
		if r.Intn(40) == 0 {
			n := 1 + r.Intn(3)
			m.Tick(n)
			for _, w := range all {
				w.ticks(n)
			}
		}
		c := anyOne(r, keys, m.issued)
		if e := m.rows[c.Keys[0]]; e != nil && r.Intn(2) == 0 {
			c.Token = e.Token
		}
		must, first := bare(m.Do(c)), told(all[0].Do(c))
		for i, w := range all {
			if i > 0 {
				if got := told(w.Do(c)); !reflect.DeepEqual(got, first) {
					t.Fatalf("pace %d: Do(%v): %v, not %v", i, c, got, first)
				}
			}
			if w.Meter().Dropped+w.Meter().Reclaimed+w.Meter().Looked != 0 || w.Issued() != m.issued {
				t.Fatalf("Do(%v): %+v, issued %d", c, w.Meter(), w.Issued())
			}
		}
		if got := bare(first); !reflect.DeepEqual(got, must) {
			t.Fatalf("Do(%v): %v, not %v", c, got, must)
		}
	}
}

// W2: tokens are 1, 2, 3 .., in the order of mutations, of nothing else.
func TestTokens(t *testing.T) {
	w := opened(t, small())
	issues := func(n uint64) {
		t.Helper()
		if w.Issued() != n {
			t.Errorf("Issued: %d, not %d", w.Issued(), n)
		}
		if e, ok := w.Find("a"); ok && n > 0 && e.Token != n {
			t.Errorf("token %d, not %d", e.Token, n)
		}
	}
	issues(0)
	for i, c := range []api.Command{set("a", "1"), with(api.Replace, "a", "2"), with(api.Append, "a", "3"), with(api.Prepend, "a", "4"), cas("a", "5", 4), by(api.Incr, "a", 1), by(api.Decr, "a", 1)} {
		w.Do(c)
		issues(uint64(i + 1))
	}
	for _, c := range []api.Command{
		get("a"), verb(api.Gat, "a"), verb(api.Touch, "a"), with(api.Add, "a", "x"), with(api.Replace, "none", "x"), cas("a", "x", 99), cas("none", "x", 1),
		by(api.Incr, "none", 1), verb(api.Delete, "none"), flush(90), verb(api.Version), verb(0), with(api.Append, "a", long(300)),
	} {
		w.Do(c)
		issues(7)
	}
	w.is(verb(api.Delete, "a"), api.Deleted)
	issues(7)
	w.stores(with(api.Add, "a", "x"))
	issues(8)
}

// R4: two stores in turns know nothing of each other.
func TestTwoStores(t *testing.T) {
	run := func(seed int64, w *world) func() (api.Answer, api.Meter) {
		r := rand.New(rand.NewSource(seed))
		keys := names(150)
		return func() (api.Answer, api.Meter) {
			if r.Intn(30) == 0 {
				w.ticks(1)
			}
			return told(w.Do(anyOne(r, keys, w.Issued()))), w.Meter()
		}
	}
	one, two, alone := run(1, opened(t, full())), run(2, opened(t, full())), run(1, opened(t, full()))
	for range 3000 {
		a, m := one()
		two()
		b, n := alone()
		if !reflect.DeepEqual(a, b) || m != n {
			t.Fatalf("%v, %+v; alone %v, %+v", a, m, b, n)
		}
	}
}
