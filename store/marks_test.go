package store_test

import (
	"math"
	"reflect"
	"testing"

	"granary/api"
)

// P10.17: every bit; the other marks stay, and nothing else changes.
func TestMark(t *testing.T) {
	w := paced(t, small(), api.Pace{Buckets: 8, Crawl: 4})
	w.sets("x", "a", "b")
	w.tells(get("a"), "a")
	must := w.entry("a")
	if !must.Hit {
		t.Error("a is not hit")
	}
	marks := func(n int, ok bool) {
		t.Helper()
		if got := w.Mark("a", n); got != ok {
			t.Errorf("Mark(%d): %v", n, got)
		}
		if ok {
			must.Stale, must.Won = n&2 != 0, n&4 != 0
		}
		w.has(must)
	}
	meter, why := w.Meter(), w.Why()
	for _, n := range []int{0, 2, 4, 6, 2, 6, 4, 0, 6} {
		marks(n, true)
	}
	for bit := range 64 {
		n := int(uint64(1) << bit)
		marks(n, bit == 1 || bit == 2)
		marks(n|6, bit == 1 || bit == 2)
	}
	for _, n := range []int{-1, math.MinInt, math.MaxInt, ^6, 15} {
		marks(n, false)
	}
	w.meter(meter)
	w.why(why...)
	if w.Issued() != 2 {
		t.Error("a mark has issued a token")
	}
	// The row says that it is active, as it was.
	for _, r := range w.Rows() {
		if (r.Entry.Key == "a") != r.Active {
			t.Errorf("%+v", r)
		}
	}
}

// P10.17: of no live item; nothing is met or taken away.
func TestMarkOfNone(t *testing.T) {
	w := begun(t)
	w.stores(till(set("dead", "x"), -1))
	w.sets("x", "a")
	w.is(flush(0), api.Fine)
	w.still("Mark of no live item", func() {
		for _, key := range []string{"dead", "a", "none", "", "a b", long(300)} {
			for _, n := range []int{0, 2, 4, 6, 8} {
				if w.Mark(key, n) {
					t.Errorf("Mark(%q, %d)", key, n)
				}
			}
		}
	})
	w.resident(2, 0, 0)
}

// P10.18: the next token, the marks, and the expiry, if it is timed; the item is not hit.
func TestStamp(t *testing.T) {
	w := begun(t)
	c := till(set("a", "x"), 90)
	c.Flags = 3
	w.stores(c)
	w.ticks(4)
	must := api.Entry{Key: "a", Value: []byte("x"), Flags: 3, Expiry: 91, Token: 1, Touched: 1}
	stamps := func(marks, exptime int, timed bool) {
		t.Helper()
		if a := w.Stamp("a", marks, exptime, timed); !reflect.DeepEqual(told(a), api.Answer{Kind: api.Stored}) {
			t.Errorf("Stamp: %v", a)
		}
		w.why(0)
		must.Token++
		must.Stale, must.Won = marks&2 != 0, marks&4 != 0
		if w.Issued() != must.Token {
			t.Errorf("Issued: %d", w.Issued())
		}
	}
	for _, marks := range []int{0, 2, 4, 6, 0} {
		stamps(marks, 7, false)
		w.has(must)
		stamps(marks, 7, true)
		must.Expiry = 12
		w.has(must)
		stamps(marks, 0, true)
		must.Expiry = 0
		w.has(must)
	}
	w.tells(get("a"), "a")
	must.Touched, must.Hit = 5, true
	w.ticks(2)
	stamps(2, 0, false)
	w.has(must)
	// A cas of the old token finds another one.
	w.is(cas("a", "y", must.Token-1), api.Exists)
	w.stores(cas("a", "y", must.Token))
	must = w.entry("a")
	stamps(0, -1, true)
	w.lacks("a")
	w.resident(1, 0, 0)
	if w.Bytes() != 60 {
		t.Errorf("Bytes: %d", w.Bytes())
	}
	w.ticks(1)
	w.resident(0, 0, 0)
}

// P10.18: Stamp moves an item behind a flush that is pending, but not behind one that has come.
func TestStampAndFlush(t *testing.T) {
	w := begun(t)
	w.sets("x", "a", "b")
	w.is(flush(0), api.Fine)
	if a := w.Stamp("a", 0, 0, false); a.Kind != api.NotFound {
		t.Error(a)
	}
	w.why(3)
	w.resident(1, 0, 0)
	if a := w.Stamp("a", 0, 0, false); a.Kind != api.NotFound || w.Issued() != 2 {
		t.Error(a)
	}
	w.why(1)
}

// P10.18: a bad one, bit by bit.
func TestStampOfEveryBit(t *testing.T) {
	w := begun(t)
	w.sets("x", "a")
	for bit := range 64 {
		n := int(uint64(1) << bit)
		a := w.Stamp("a", n, 0, false)
		must := api.Answer{Kind: api.Stored}
		if bit != 1 && bit != 2 {
			must = refusal(bad)
		}
		if !reflect.DeepEqual(told(a), must) {
			t.Errorf("Stamp of bit %d: %v", bit, a)
		}
	}
	if w.Issued() != 3 {
		t.Errorf("Issued: %d", w.Issued())
	}
}

// P10.13 comes behind a Stamp: a fourth item in hot is balanced.
func TestStampIsACommand(t *testing.T) {
	w := paced(t, small(), api.Pace{})
	w.sets("x", "a", "b", "c", "d")
	w = restored(t, small(), api.Pace{Buckets: 8, Links: 2, Crawl: 3}, w.State(), w.Rows())
	w.Stamp("d", 0, 0, false)
	w.meter(api.Meter{Links: 2, Crawled: 3})
	w.queues("d c", "", "b a")
	w.Stamp("none", 0, 0, false)
	w.meter(api.Meter{Crawled: 1})
	w.why(1)
	w.Stamp("a", 0, 0, false)
	w.meter(api.Meter{Links: 1, Crawled: 3})
	w.queues("d", "", "c b a")
}
