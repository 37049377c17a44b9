package store_test

import (
	"testing"

	"granary/api"
)

// values is the answer that tells these.
func values(all ...api.Entry) api.Answer { return api.Answer{Kind: api.Values, Entries: all} }

// P10.5: each key in its order, as it was ahead of being hit; twice, if it stands twice.
func TestGet(t *testing.T) {
	for _, v := range []int{api.Get, api.Gets} {
		w := begun(t)
		c := till(set("a", "x"), 90)
		c.Flags = 1<<32 - 1
		w.stores(c)
		w.sets("", "b")
		w.ticks(4)
		w.Mark("b", api.MarkStale)
		a := api.Entry{Key: "a", Value: []byte("x"), Flags: 1<<32 - 1, Expiry: 91, Token: 1, Touched: 1}
		b := api.Entry{Key: "b", Token: 2, Touched: 1, Stale: true}
		hit := a
		hit.Touched, hit.Hit = 5, true
		w.answers(verb(v, "none", "a", "b", "a", "no"), values(a, b, hit))
		w.why(1, 0, 0, 0, 1)
		w.has(hit)
		b.Touched, b.Hit = 5, true
		w.has(b)
		w.ticks(1)
		b.Touched = 5
		w.answers(verb(v, "b"), values(b))
		b.Touched = 6
		w.has(b)
		if w.Issued() != 2 {
			t.Error("a read has issued a token")
		}
	}
}

// P10.5: the expiry is another one ahead of the next key's being met.
func TestGat(t *testing.T) {
	for _, v := range []int{api.Gat, api.Gats} {
		w := begun(t)
		w.sets("x", "a", "b")
		w.ticks(9)
		a := api.Entry{Key: "a", Value: []byte("x"), Expiry: 15, Token: 1, Touched: 1}
		again := a
		again.Touched, again.Hit = 10, true
		b := api.Entry{Key: "b", Value: []byte("x"), Expiry: 15, Token: 2, Touched: 1}
		w.answers(till(verb(v, "a", "b", "c", "a"), 5), values(a, b, again))
		w.why(0, 0, 1, 0)
		w.has(again)
		// 0: never; above MaxRelative: that tick.
		again.Expiry = 0
		w.answers(till(verb(v, "a"), 0), values(again))
		again.Expiry = 2592001
		w.answers(till(verb(v, "a"), 2592001), values(again))
		w.has(again)
		again.Expiry = 2592010
		w.answers(till(verb(v, "a"), 2592000), values(again))
		// Dead at once: it is told once.
		for _, t := range []int{-1, -1 << 63} {
			w.sets("x", "a")
			last := w.entry("a")
			last.Expiry = 10
			w.answers(till(verb(v, "a", "b", "a"), t), values(last, func() api.Entry {
				e := b
				e.Expiry, e.Touched, e.Hit = 10, 10, true
				return e
			}()))
			w.why(0, 0, 2)
			w.sets("x", "b")
			b = w.entry("b")
			w.tells(get("b"), "b")
		}
	}
}

// P10.4: what is dead is taken away when it is met, and then alone.
func TestMeeting(t *testing.T) {
	for v := api.Get; v <= api.Touch; v++ {
		w := begun(t)
		w.stores(till(set("dead", "1"), 2))
		w.stores(set("live", "2"))
		w.ticks(1)
		w.holds("dead", "1")
		w.ticks(1)
		w.resident(1, 0, 0) // the crawler behind the tick has taken it: it was due
		w.stores(till(set("dead", "1"), -1))
		w.resident(2, 0, 0)
		w.lacks("dead")
		if w.Mark("dead", 0) {
			t.Error("Mark of a dead item")
		}
		w.resident(2, 0, 0)
		issued := w.Issued()
		c := with(v, "dead", "3")
		c.Token = issued
		a := w.Do(c)
		w.why(2)
		if stored := v == api.Set || v == api.Add; stored {
			w.resident(2, 0, 0)
			w.holds("dead", "3")
		} else {
			w.resident(1, 0, 0)
			if a.Kind == api.Stored || w.Issued() != issued {
				t.Errorf("verb %d: %v", v, a)
			}
		}
		w.tells(get("live"), "live")
	}
}

// P10.10: touch sets the expiry, and hits.
func TestTouch(t *testing.T) {
	w := begun(t)
	c := till(set("a", "x"), 9)
	c.Flags = 3
	w.stores(c)
	w.Mark("a", api.MarkWon)
	w.ticks(2)
	w.is(till(verb(api.Touch, "a"), 20), api.Touched)
	w.why(0)
	w.has(api.Entry{Key: "a", Value: []byte("x"), Flags: 3, Expiry: 23, Token: 1, Touched: 3, Won: true, Hit: true})
	w.ticks(10)
	w.holds("a", "x")
	w.is(till(verb(api.Touch, "a"), 0), api.Touched)
	w.ticks(100)
	w.holds("a", "x")
	w.is(till(verb(api.Touch, "a"), -1), api.Touched)
	w.lacks("a")
	w.is(till(verb(api.Touch, "a"), 5), api.NotFound)
	w.why(2)
	w.is(till(verb(api.Touch, "a"), 5), api.NotFound)
	w.why(1)
	w.resident(0, 0, 0)
}

// P10.10: delete.
func TestDelete(t *testing.T) {
	w := begun(t)
	w.sets("x", "a", "b")
	w.is(verb(api.Delete, "a"), api.Deleted)
	w.why(0)
	w.lacks("a")
	w.is(verb(api.Delete, "a"), api.NotFound)
	w.why(1)
	w.resident(1, 0, 0)
	w.is(flush(0), api.Fine)
	w.is(verb(api.Delete, "b"), api.NotFound)
	w.why(3)
	w.resident(0, 0, 0)
	if w.Bytes() != 0 || w.Issued() != 2 {
		t.Errorf("Bytes %d, Issued %d", w.Bytes(), w.Issued())
	}
}

// P10.15: Find tells, and does nothing else.
func TestFind(t *testing.T) {
	w := begun(t)
	w.sets("x", "a", "b")
	w.stores(till(set("dead", "x"), -1))
	w.stores(set("late", "x"))
	w.still("Find", func() {
		for range 3 {
			w.has(api.Entry{Key: "a", Value: []byte("x"), Token: 1, Touched: 1})
			w.lacks("dead", "none", "", " ", long(300), "a b")
		}
	})
	w.resident(4, 0, 0)
	w.is(flush(0), api.Fine)
	w.lacks("a", "b", "late")
	w.resident(4, 0, 0)
}
