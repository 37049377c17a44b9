package store_test

import (
	"testing"

	"granary/api"
)

// The table 'Runs', row by row.
func TestRuns(t *testing.T) {
	w := begun(t)
	w.stores(set("a", "x"))
	w.has(api.Entry{Key: "a", Value: []byte("x"), Token: 1, Touched: 1})
	w.stores(cas("a", "y", 1))
	w.is(cas("a", "y", 1), api.Exists)
	w.is(cas("b", "y", 1), api.NotFound)

	w = begun(t)
	w.stores(till(set("a", "x"), -1))
	w.tells(get("a"))
	w.why(2)
	w.stores(with(api.Add, "a", "y"))

	w = begun(t)
	w.stores(set("a", long(197)))
	w.refuses(set("a", long(198)), large)
	w.lacks("a")

	w = begun(t)
	w.stores(set("a", long(192)))
	must := w.entry("a")
	w.refuses(with(api.Append, "a", long(6)), large)
	w.has(must)
	c := with(api.Replace, "a", "x")
	c.Large = true
	w.refuses(c, large)
	w.tells(get("a"))
}

// The table 'Runs': numbers.
func TestRunsOfNumbers(t *testing.T) {
	w := begun(t)
	w.sets("007", "a")
	w.counts(by(api.Incr, "a", 1), 8)
	w.sets("18446744073709551615", "a")
	w.counts(by(api.Incr, "a", 1), 0)
	for _, v := range []string{"", "1 "} {
		w.sets(v, "a")
		w.refuses(by(api.Incr, "a", 1), noNumber)
	}
	w.sets("5", "a")
	w.counts(by(api.Decr, "a", 7), 0)

	w = begun(t)
	w.sets("99999", "n")
	w.resident(1, 0, 0)
	w.counts(by(api.Incr, "n", 1), 100000)
	w.resident(0, 1, 0)
}

// The table 'Runs': what is flushed, and what expires.
func TestRunsOfTime(t *testing.T) {
	w := begun(t)
	w.sets("x", "a", "b")
	w.is(flush(0), api.Fine)
	w.sets("x", "c")
	w.tells(get("a", "b", "c"), "c")
	w.why(3, 3, 0)

	w = begun(t)
	w.is(flush(2), api.Fine)
	w.sets("x", "a")
	w.ticks(1)
	w.tells(get("a"), "a")
	w.ticks(1)
	w.tells(get("a"))

	w = begun(t)
	w.sets("x", "a")
	w.ticks(6)
	w.answers(till(verb(api.Gat, "a", "a"), -1), api.Answer{Kind: api.Values, Entries: []api.Entry{
		{Key: "a", Value: []byte("x"), Token: 1, Expiry: 7, Touched: 1},
	}})
	w.why(0, 2)

	w = begun(t)
	w.stores(till(set("a", "x"), -1))
	w.is(verb(api.Delete, "a"), api.NotFound)
	w.why(2)

	w = begun(t)
	w.sets("x", "a")
	w.is(till(verb(api.Touch, "a"), 5), api.Touched)
	w.stores(cas("a", "y", 1))

	for _, c := range []api.Command{verb(19, "a"), get(), verb(api.Set, "a", "b"), get("a b")} {
		w.refuses(c, bad)
	}
}

// The remark ahead of the table: with New the crawler takes what is dead away behind the command that made it so, but for gat twice.
func TestRunsWithTheCrawler(t *testing.T) {
	w := opened(t, small())
	w.stores(till(set("a", "x"), -1))
	w.resident(0, 0, 0)
	w.tells(get("a"))
	w.why(1)
	w.stores(till(set("a", "x"), -1))
	w.is(verb(api.Delete, "a"), api.NotFound)
	w.why(1)

	w = opened(t, small())
	w.sets("x", "a", "b")
	w.is(flush(0), api.Fine)
	w.sets("x", "c")
	w.tells(get("a", "b", "c"), "c")
	w.why(1, 1, 0)

	w = opened(t, small())
	w.sets("x", "a")
	w.tells(till(verb(api.Gat, "a", "a"), -1), "a")
	w.why(0, 2)
}

// The chapter: where no page is free, a drop.
func TestRunsOfAFullClass(t *testing.T) {
	w := paced(t, full(), slow())
	w.sets(long(60), "m")
	w.sets(long(160), "l")
	for _, key := range names(64) {
		w.sets("v", key)
		if m := w.Meter(); m.Dropped+m.Reclaimed+m.Looked != 0 {
			t.Fatalf("ahead of the class's being full: %+v", m)
		}
	}
	w.sets("v", "more")
	if m := w.Meter(); m.Dropped != 1 || m.Reclaimed != 0 || m.Looked != 5 {
		t.Errorf("the 65th: %+v", m)
	}
	w.resident(64, 1, 1)
	w.lacks("k000")

	// Example 3: two classes' items are never dropped for each other.
	for i, key := range names(400) {
		w.sets(long(i%3), key)
	}
	w.holds("m", long(60))
	w.holds("l", long(160))
	w.resident(64, 1, 1)
}

// The chapter: where a class has one chunk and no page is free, a refusal for room.
func TestRunsOfNoRoom(t *testing.T) {
	w := paced(t, single(), slow())
	for i, n := range []int{1, 100, 500} {
		w.sets(long(n), names(3)[i])
	}
	w.sets(long(4000), "k")
	w.resident(1, 1, 1, 1)
	must := w.entry("k")
	w.refuses(with(api.Append, "k", "y"), noRoom)
	w.has(must)
	w.refuses(set("k", long(4000)), noRoom)
	w.lacks("k")
	w.resident(1, 1, 1, 0)
}

// The document's examples 1 to 4 and 9, of a store.
func TestWhole(t *testing.T) {
	w := opened(t, small())
	c := set("a", "x")
	c.Flags = 5
	w.stores(c)
	one := api.Entry{Key: "a", Value: []byte("x"), Flags: 5, Token: 1, Touched: 1}
	w.answers(get("a"), api.Answer{Kind: api.Values, Entries: []api.Entry{one}})
	one.Hit = true
	w.answers(verb(api.Gets, "a"), api.Answer{Kind: api.Values, Entries: []api.Entry{one}})
	c = cas("a", "y", 1)
	c.Flags = 5
	w.stores(c)
	w.is(c, api.Exists)
	w.has(api.Entry{Key: "a", Value: []byte("y"), Flags: 5, Token: 2, Touched: 1})
	w.is(by(api.Incr, "n", 1), api.NotFound)
	w.stores(set("n", "99"))
	w.counts(by(api.Incr, "n", 1), 100)
	w.refuses(set("a", long(300)), large)
	w.tells(get("a"))
}

// Example 2: a growth is carried on behind the commands.
func TestGrowth(t *testing.T) {
	w := opened(t, small())
	for i, key := range names(27) {
		w.sets("v", key)
		must := 0
		if i == 24 || i == 25 {
			must = 8
		}
		if got := w.Meter().Buckets; got != must {
			t.Errorf("behind Set %d: %d buckets, not %d", i+1, got, must)
		}
	}
}
