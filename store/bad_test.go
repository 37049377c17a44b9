package store_test

import (
	"math"
	"reflect"
	"testing"

	"granary/api"
)

// The verbs, by the keys that they use.
var (
	many    = []int{api.Get, api.Gets, api.Gat, api.Gats}
	storing = []int{api.Set, api.Add, api.Replace, api.Append, api.Prepend, api.Cas}
	ofOne   = []int{api.Delete, api.Incr, api.Decr, api.Touch}
	keyless = []int{api.FlushAll, api.Version, api.Verbosity, api.Quit}
)

// illegal are keys that are none.
func illegal() []string {
	all := []string{"", "a b", " a", "a\x7f", "a\x00", "a\r", "\n", long(251), long(1 << 16)}
	for b := range 33 {
		all = append(all, "k"+string(rune(b)))
	}
	return all
}

// badCommands are those of P10.2.
func badCommands() (all []api.Command) {
	for _, v := range []int{math.MinInt, -1, 0, api.Stats, api.MetaGet, api.MetaSet, api.MetaDelete, api.MetaArith, api.MetaNoop, 25, 256 + api.Get, math.MaxInt} {
		all = append(all, verb(v), verb(v, "k000"))
	}
	for _, v := range append(append(append([]int{}, many...), storing...), ofOne...) {
		all = append(all, verb(v), api.Command{Verb: v, Keys: []string{}})
		for _, key := range illegal() {
			all = append(all, verb(v, key))
		}
	}
	for _, v := range many {
		all = append(all, verb(v, "", "k000"), verb(v, "k000", "k001", "k\x7f"), verb(v, "k000", " ", "k001"))
	}
	for _, v := range append(append([]int{}, storing...), ofOne...) {
		all = append(all, verb(v, "k000", "k001"), verb(v, "k000", "k000"), verb(v, "k000", "k001", "k002"))
	}
	for _, v := range storing {
		for _, flags := range []uint64{1 << 32, 1 << 40, math.MaxUint64} {
			all = append(all, api.Command{Verb: v, Keys: []string{"k000"}, Flags: flags, Token: 1})
		}
	}
	return all
}

// P10.2: a bad command is refused, nothing is told of it, nothing is done by it or behind it: a store that was asked it goes on as one that was not.
func TestBadCommands(t *testing.T) {
	p := api.Pace{Buckets: 1, Links: 1, Crawl: 1}
	w, twin := paced(t, full(), p), paced(t, full(), p)
	keys := names(80)
	for i, c := range badCommands() {
		good := till(set(keys[i%len(keys)], long(i%7)), 3*(i%2))
		w.stores(good)
		twin.stores(good)
		w.meter(twin.Meter())
		if i%50 == 49 {
			w.is(flush(0), api.Fine)
			twin.is(flush(0), api.Fine)
		}
		w.stands("a bad command", func() { w.refuses(c, bad) })
		w.meter(api.Meter{})
		w.why()
	}
	if !reflect.DeepEqual(sightOf(w.Store), sightOf(twin.Store)) {
		t.Error("bad commands have changed the store")
	}
}

// P10.2, P10.18: so it is with a bad Stamp.
func TestBadStamps(t *testing.T) {
	w := paced(t, small(), api.Pace{Buckets: 1, Links: 1, Crawl: 1})
	for _, key := range names(30) {
		w.sets("x", key)
	}
	stamp := func(key string, marks int) {
		t.Helper()
		w.tells(get("none"))
		w.stands("a bad Stamp", func() {
			if a := w.Stamp(key, marks, 5, true); !reflect.DeepEqual(told(a), refusal(bad)) {
				t.Errorf("Stamp(%q, %d): %v", key, marks, a)
			}
		})
		w.meter(api.Meter{})
		w.why()
	}
	for _, key := range illegal() {
		stamp(key, 0)
	}
	for _, marks := range []int{1, 3, 7, 8, 10, 16, 1 << 40, -1, math.MinInt} {
		stamp("k000", marks)
		stamp("none", marks)
	}
}

// Keys, flags and texts at their bounds are not bad.
func TestNotBad(t *testing.T) {
	w := begun(t)
	for _, key := range []string{"!", "~", "\x80", "\xff\xfe", long(190), "\u00fc"} {
		w.stores(set(key, "1"))
		w.tells(get(key), key)
	}
	w = paced(t, single(), slow())
	w.stores(set(long(250), "1"))
	w.holds(long(250), "1")
	for _, v := range storing {
		c := with(v, "k", "1")
		c.Flags = math.MaxUint32
		if a := w.Do(c); a.Kind == api.Refused {
			t.Errorf("verb %d with the greatest flags: %v", v, a)
		}
	}
	if e := w.entry("k"); e.Flags != math.MaxUint32 {
		t.Errorf("flags: %d", e.Flags)
	}
}

// junk fills the fields of a command that its verb does not use.
func junk(c api.Command) api.Command {
	c.Noreply, c.What = true, "reset"
	c.Meta = []api.Flag{{Letter: 'T', Arg: "-1", Has: true}}
	is := func(v ...int) bool {
		for _, x := range v {
			if c.Verb == x {
				return true
			}
		}
		return false
	}
	if !is(storing...) {
		c.Flags, c.Data, c.Large = math.MaxUint64, []byte(long(9999)), true
	}
	if !is(api.Gat, api.Gats, api.Set, api.Add, api.Replace, api.Cas, api.Touch, api.FlushAll) {
		c.Exptime = -1
	}
	if !is(api.Cas) {
		c.Token = 77
	}
	if !is(api.Incr, api.Decr) {
		c.Delta = 5
	}
	if is(keyless...) {
		c.Keys = []string{"a", "a b", ""}
	}
	return c
}

// The section 'Types': fields that a verb does not use are not looked at.
func TestFieldsNotUsed(t *testing.T) {
	for v := api.Get; v <= api.Quit; v++ {
		w, twin := begun(t), begun(t)
		for _, x := range []*world{w, twin} {
			x.stores(till(set("a", "5"), 9))
			x.stores(set("b", "6"))
			x.ticks(2)
		}
		c := with(v, "a", "7")
		c.Token, c.Delta, c.Exptime, c.Flags = 1, 2, 3, 4
		if v >= api.FlushAll {
			c.Keys = nil
		}
		must, got := told(twin.Do(c)), told(w.Do(junk(c)))
		if v == api.Append || v == api.Prepend {
			if e := w.entry("a"); e.Flags != 0 || e.Expiry != 10 {
				t.Errorf("verb %d: %+v", v, e)
			}
		}
		if !reflect.DeepEqual(got, must) || !reflect.DeepEqual(sightOf(w.Store), sightOf(twin.Store)) {
			t.Errorf("verb %d: %v, not %v", v, got, must)
		}
		w.meter(twin.Meter())
		w.why(twin.Why()...)
	}
}

// The section 'Types': an answer's fields that its kind does not use are zero.
func TestAnswers(t *testing.T) {
	w := begun(t)
	w.is(set("a", "5"), api.Stored)
	w.is(with(api.Add, "a", "5"), api.NotStored)
	w.is(cas("a", "5", 9), api.Exists)
	w.is(cas("b", "5", 9), api.NotFound)
	w.counts(by(api.Decr, "a", 1), 4)
	w.is(till(verb(api.Touch, "a"), 0), api.Touched)
	w.is(verb(api.Delete, "a"), api.Deleted)
	w.is(flush(0), api.Fine)
	w.answers(get("a"), api.Answer{Kind: api.Values})
	w.answers(verb(api.Version), api.Answer{Kind: api.Told, Text: "granary 1"})
	w.is(verb(api.Verbosity), api.Fine)
	w.is(verb(api.Quit), api.Nothing)
	w.refuses(verb(0), bad)
}
