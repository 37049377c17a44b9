package store_test

import (
	"testing"

	"granary/api"
)

// P10.13, P10.16: links, a key at a time, of a key's item that is resident; three at most a key.
func TestLinks(t *testing.T) {
	w := begun(t)
	for i, must := range []int{1, 1, 1, 0} {
		w.sets("x", string(rune('a'+i)))
		w.meter(api.Meter{Links: must})
	}
	w.queues("d", "", "c b a")
	w.tells(get("a"), "a")
	w.meter(api.Meter{Links: 1})
	w.queues("d", "a", "c b")
	w.tells(get("a", "b", "none"), "a", "b")
	w.meter(api.Meter{Links: 3}) // b to warm, a to its head, b to cold; then nothing is due for b
	w.queues("d", "a", "b c")
	w.tells(get("none", "no"))
	w.meter(api.Meter{})
	w.stores(till(set("e", "x"), -1)) // dead, and resident
	w.meter(api.Meter{Links: 1})
	w.tells(get("a"), "a")
	w.queues("", "a*", "d b c") // e, which is dead, stands in hot
	w.is(verb(api.Delete, "d"), api.Deleted)
	w.meter(api.Meter{}) // d's class is not asked: it has no item
}

// P10.13: the balance is that of the class of the key's item, and of no other.
func TestLinksOfOneClass(t *testing.T) {
	w := paced(t, small(), api.Pace{})
	w.sets("x", "a", "b", "c", "d")
	w.sets(long(30), "e", "f", "g", "h")
	st, rows := w.State(), w.Rows()
	w = restored(t, small(), slow(), st, rows)
	w.tells(get("e"), "e")
	w.meter(api.Meter{Links: 3})
	w.queues("d c b a", "", "")
	w.tells(get("a", "e", "none"), "a", "e")
	w.meter(api.Meter{Links: 3}) // a to warm and b, c to cold; of e's class nothing is due
	w.queues("d", "a", "c b")
}

// P10.13, P10.16: old buckets, a key at a time; once, of a command without one.
func TestBuckets(t *testing.T) {
	for _, x := range []struct {
		pace int
		c    api.Command
		must []int
	}{
		{8, get("a"), []int{8, 0}},
		{8, get("a", "b"), []int{8, 0}},
		{5, get("a", "a", "none"), []int{11, 0}},
		{3, get("a", "none"), []int{6, 6, 1, 0}},
		{1, verb(api.Version), []int{1, 1, 1}},
		{7, verb(api.Verbosity), []int{7, 2, 0}},
		{7, flush(9), []int{7, 2, 0}},
		{20, verb(api.Quit), []int{0}},
		{0, get("a", "b"), []int{0, 0}},
		{2, verb(api.Delete, "none"), []int{2, 2}},
		{2, set("none", long(300)), []int{2, 2}},
		{1 << 20, verb(api.Quit), []int{0}},
	} {
		w := paced(t, small(), api.Pace{Buckets: x.pace})
		w.sets("x", names(25)...)
		if got := w.Meter().Buckets; got != min(x.pace, 16) {
			t.Errorf("behind the 25th Set: %d", got)
		}
		for i, must := range x.must {
			w.Do(x.c)
			if m := w.Meter(); m != (api.Meter{Buckets: must}) {
				t.Errorf("pace %d, %v, command %d: %+v, not %d", x.pace, x.c, i, m, must)
			}
		}
	}
	// A tick moves none, Stamp does.
	w := paced(t, small(), api.Pace{Buckets: 3})
	w.sets("x", names(25)...)
	w.ticks(1)
	w.meter(api.Meter{Crawled: 25})
	w.Stamp("none", 0, 0, false)
	w.meter(api.Meter{Buckets: 3})
	w.Stamp("k000", 0, 0, false)
	w.meter(api.Meter{Buckets: 3})
	w.tells(get("none"))
	w.meter(api.Meter{Buckets: 3})
	w.tells(get("none", "no"))
	w.meter(api.Meter{Buckets: 4})
}

// P10.13, P10.16: looks of the crawler, a key at a time; a Step ends where a round ends.
func TestCrawled(t *testing.T) {
	w := paced(t, small(), api.Pace{Crawl: 4})
	for i, must := range []int{1, 2, 3, 4, 0, 4} { // the round of the fourth is not over till the fifth finds its end
		w.sets("x", string(rune('a'+i)))
		w.meter(api.Meter{Crawled: must})
	}
	w.tells(get("a", "b", "none"), "a", "b")
	w.meter(api.Meter{Crawled: 2 + 4 + 2})
	w.is(verb(api.Quit), api.Nothing)
	w.meter(api.Meter{Crawled: 4})
	w.Stamp("a", 0, 0, false)
	w.meter(api.Meter{Crawled: 2})
	w.Mark("a", 0)
	w.meter(api.Meter{Crawled: 2})
	w.is(flush(0), api.Fine)
	w.meter(api.Meter{Crawled: 4})
	w.resident(2, 0, 0)
	w.tells(get("e"))
	w.why(3)
	w.meter(api.Meter{Crawled: 1})
	w.resident(0, 0, 0)
}

// kinds of misses, and how a key comes to be one.
func (w *world) prepared(why int) {
	w.Helper()
	switch why {
	case api.WhyHit:
		w.stores(set("k", "1"))
	case api.WhyExpired:
		w.stores(till(set("k", "1"), -1))
	case api.WhyFlushed:
		w.stores(till(set("k", "1"), 9))
		w.is(flush(0), api.Fine)
	}
}

// P10.16: Why, of each verb with keys; an item that is both is expired.
func TestWhy(t *testing.T) {
	for v := api.Get; v <= api.Touch; v++ {
		for why := api.WhyHit; why <= api.WhyFlushed; why++ {
			w := begun(t)
			w.prepared(why)
			w.Do(with(v, "k", "5"))
			w.why(why)
		}
	}
	for why := api.WhyHit; why <= api.WhyFlushed; why++ {
		w := begun(t)
		w.prepared(why)
		w.Stamp("k", 0, 0, false)
		w.why(why)
		w.ticks(1)
		w.why()
		for _, v := range keyless {
			w.tells(get("none"))
			w.why(1)
			w.Do(verb(v, "k", "none"))
			w.why()
		}
	}
	w := begun(t)
	w.prepared(api.WhyExpired)
	w.is(flush(0), api.Fine)
	w.tells(get("k", "k"))
	w.why(2, 1)
}

// W7: beside its own keys a command does no more than its pace says.
func TestWorkIsBounded(t *testing.T) {
	p := api.Pace{Buckets: 2, Links: 1, Crawl: 3}
	w := paced(t, full(), p)
	for i := range 2000 {
		keys := names(90)[i%83 : i%83+1+i%3]
		c := get(keys...)
		if i%2 == 0 {
			keys = keys[:1]
			c = till(set(keys[0], long(i%70)), i%7)
		}
		w.Do(c)
		if i%50 == 0 {
			w.ticks(1)
			if m := w.Meter(); m.Crawled > 64 || m != (api.Meter{Crawled: m.Crawled}) {
				t.Fatalf("a tick: %+v", m)
			}
			continue
		}
		n := len(keys)
		if m := w.Meter(); m.Buckets > 2*n || m.Links > n || m.Crawled > 3*n || m.Looked > 5 || m.Dropped+m.Reclaimed > 1 {
			t.Fatalf("%v: %+v", c, m)
		}
	}
}
