package store_test

import (
	"math"
	"reflect"
	"slices"
	"testing"

	"granary/api"
	"granary/store"
)

func restored(t *testing.T, c api.Config, p api.Pace, st api.State, rows []api.Row) *world {
	t.Helper()
	s, e := store.Restore(c, p, st, rows)
	if e != api.OK || s == nil {
		t.Fatalf("Restore: %v", e)
	}
	return &world{t, s}
}

// row is one of a key, a token and a value of so many bytes, in hot.
func row(key string, token uint64, n, class int) api.Row {
	return api.Row{Entry: api.Entry{Key: key, Value: []byte(long(n)), Token: token}, Queue: api.Hot, Class: class}
}

// P10.19: the order of rows, and what they tell.
func TestRows(t *testing.T) {
	w := begun(t)
	w.sets("x", "a", "b", "c", "d")
	w.sets(long(30), "m")
	w.ticks(1)
	w.stores(till(set("dead", long(150)), -1))
	w.tells(till(verb(api.Gat, "a"), 7), "a")
	w.tells(get("b"), "b")
	w.Mark("c", api.MarkWon)
	w.Mark("d", api.MarkStale)
	x := []byte("x")
	must := []api.Row{
		{Entry: api.Entry{Key: "d", Value: x, Token: 4, Touched: 1, Stale: true}, Queue: api.Hot, Class: 0},
		{Entry: api.Entry{Key: "b", Value: x, Token: 2, Touched: 2, Hit: true}, Queue: api.Warm, Class: 0},
		{Entry: api.Entry{Key: "a", Value: x, Token: 1, Touched: 2, Hit: true, Expiry: 9}, Queue: api.Cold, Class: 0},
		{Entry: api.Entry{Key: "c", Value: x, Token: 3, Touched: 1, Won: true}, Queue: api.Cold, Class: 0},
		{Entry: api.Entry{Key: "m", Value: []byte(long(30)), Token: 5, Touched: 1}, Queue: api.Cold, Class: 1},
	}
	if got := w.Rows(); !reflect.DeepEqual(got, must) {
		t.Errorf("Rows: %+v, not %+v", got, must)
	}
	w.is(flush(4), api.Fine)
	if st := w.State(); st != (api.State{Now: 2, Issued: 6, Pending: 6}) {
		t.Errorf("State: %+v", st)
	}
	w.ticks(4)
	if st := w.State(); st != (api.State{Now: 6, Issued: 6, Cut: 6}) || len(w.Rows()) != 0 {
		t.Errorf("State: %+v", st)
	}
}

// P10.20: what Paced refuses is refused first, and nothing is asked of the state and the rows then.
func TestRestoreRefusedAsPaced(t *testing.T) {
	spoilt := []api.Row{{}}
	for _, x := range []struct {
		c    api.Config
		p    api.Pace
		must api.Errno
	}{
		{but(func(c *api.Config) { c.Pages = 2 }), api.Pace{}, api.ErrSmall},
		{tooMany(), api.Pace{}, api.ErrMany},
		{but(func(c *api.Config) { c.Hot = 0 }), api.Pace{}, api.ErrArg},
		{small(), api.Pace{Links: -1}, api.ErrArg},
		{small(), api.Pace{Crawl: api.MaxPace + 1}, api.ErrArg},
	} {
		for _, st := range []api.State{{}, {Now: 1}} {
			for _, rows := range [][]api.Row{nil, spoilt} {
				if s, e := store.Restore(x.c, x.p, st, rows); s != nil || e != x.must {
					t.Errorf("Restore(%v, %v): %v, not %v", x.c, x.p, e, x.must)
				}
			}
		}
	}
}

// P10.20: states that are refused, whatever the rows are; and those at their bounds.
func TestRestoreOfStates(t *testing.T) {
	const last = math.MaxUint64 - 1<<32
	for _, st := range []api.State{
		{}, {Now: -1}, {Now: 1<<40 + 1}, {Now: math.MinInt}, {Now: 5, Pending: 5}, {Now: 5, Pending: -1}, {Now: 5, Pending: 1},
		{Now: 1, Cut: 1}, {Now: 1, Issued: 6, Cut: 7}, {Now: 1, Issued: last + 1}, {Now: 1, Issued: math.MaxUint64}, {Now: 1, Issued: math.MaxUint64, Cut: math.MaxUint64},
	} {
		for _, rows := range [][]api.Row{nil, {{}}} {
			if s, e := store.Restore(small(), slow(), st, rows); s != nil || e != api.ErrArg {
				t.Errorf("Restore of %+v: %v", st, e)
			}
		}
	}
	for _, st := range []api.State{
		{Now: 1}, {Now: 1 << 40}, {Now: 5, Pending: 6}, {Now: 5, Pending: math.MaxInt}, {Now: 1, Issued: 7, Cut: 7}, {Now: 1, Issued: last}, {Now: 1, Issued: last, Cut: last},
	} {
		w := restored(t, small(), slow(), st, nil)
		if w.State() != st || w.Now() != st.Now || w.Issued() != st.Issued || w.Len() != 0 {
			t.Errorf("State: %+v, not %+v", w.State(), st)
		}
		w.stores(set("a", "x"))
		if e := w.entry("a"); e.Token != st.Issued+1 {
			t.Errorf("the next token: %d", e.Token)
		}
	}
}

// P10.20: each refusal of a row alone, at each place; and what is at its bounds is not refused.
func TestRestoreOfRows(t *testing.T) {
	st := api.State{Now: 3, Issued: 9, Cut: 2}
	rows := []api.Row{row("a", 3, 1, 0), row("b", 4, 30, 1), row("c", 5, 100, 2)}
	for at := range rows {
		one := func(what string, must api.Errno, spoil func(r *api.Row)) {
			t.Helper()
			all := slices.Clone(rows)
			spoil(&all[at])
			s, e := store.Restore(small(), slow(), st, all)
			if e != must || (s != nil) != (must == api.OK) {
				t.Errorf("row %d with %s: %v, not %v", at, what, e, must)
			}
		}
		for _, key := range illegal() {
			one("an illegal key", api.ErrForm, func(r *api.Row) { r.Entry.Key = key })
		}
		one("great flags", api.ErrForm, func(r *api.Row) { r.Entry.Flags = 1 << 32 })
		one("the greatest flags", api.OK, func(r *api.Row) { r.Entry.Flags = 1<<32 - 1 })
		one("no token", api.ErrForm, func(r *api.Row) { r.Entry.Token = 0 })
		one("a token that was not issued", api.ErrForm, func(r *api.Row) { r.Entry.Token = 10 })
		one("the first token", api.OK, func(r *api.Row) { r.Entry.Token = 1 })
		one("the last token", api.OK, func(r *api.Row) { r.Entry.Token = 9 })
		for _, n := range []int{-1, math.MinInt} {
			one("an expiry below 0", api.ErrForm, func(r *api.Row) { r.Entry.Expiry = n })
			one("touched below 0", api.ErrForm, func(r *api.Row) { r.Entry.Touched = n })
		}
		for _, n := range []int{0, 1, 3, math.MaxInt} {
			one("an expiry", api.OK, func(r *api.Row) { r.Entry.Expiry = n })
			one("touched", api.OK, func(r *api.Row) { r.Entry.Touched = n })
		}
		for _, n := range []int{math.MinInt, -1, 0, 4, 5, math.MaxInt} {
			one("no queue", api.ErrForm, func(r *api.Row) { r.Queue = n })
		}
		for n := api.Hot; n <= api.Cold; n++ {
			one("a queue", api.OK, func(r *api.Row) { r.Queue = n })
		}
		for _, n := range []int{math.MinInt, -1, 3, math.MaxInt} {
			one("no class", api.ErrForm, func(r *api.Row) { r.Class = n })
		}
		for n := range 3 {
			size := 64<<n - 59
			one("the greatest size", api.OK, func(r *api.Row) { r.Class, r.Entry.Value = n, []byte(long(size)) })
			one("a size above it", api.ErrForm, func(r *api.Row) { r.Class, r.Entry.Value = n, []byte(long(size+1)) })
			one("a value longer than a page", api.ErrForm, func(r *api.Row) { r.Class, r.Entry.Value = n, make([]byte, 1<<20+1) })
		}
		other := rows[(at+1)%3]
		one("the key of another row", api.ErrForm, func(r *api.Row) { r.Entry.Key = other.Entry.Key })
		one("the token of another row", api.ErrForm, func(r *api.Row) { r.Entry.Token = other.Entry.Token })
	}
}

// P10.20: a class without a chunk; row by row: the form of a row ahead of its room, its room ahead of the next row's form.
func TestRestoreWithoutRoom(t *testing.T) {
	c := full() // 48 chunks of class 2 at most
	var rows []api.Row
	for i, key := range names(50) {
		rows = append(rows, row(key, uint64(i+1), 3, 2))
	}
	answers := func(what string, must api.Errno, n int, spoil ...int) {
		t.Helper()
		all := slices.Clone(rows[:n])
		for _, at := range spoil {
			all[at].Queue = 0
		}
		if s, e := store.Restore(c, slow(), api.State{Now: 1, Issued: 50}, all); e != must || (s != nil) != (must == api.OK) {
			t.Errorf("%s: %v, not %v", what, e, must)
		}
	}
	answers("48 rows", api.OK, 48)
	answers("49 rows", api.ErrRoom, 49)
	answers("49 rows, the last one spoilt", api.ErrForm, 49, 48)
	answers("50 rows, the last one spoilt", api.ErrRoom, 50, 49)
	answers("48 rows, the last one spoilt", api.ErrForm, 48, 47)

	// A page that is a class's is no other one's.
	rows[0].Class = 0
	rows[0].Entry.Value = nil
	answers("33 rows", api.OK, 33)
	answers("34 rows", api.ErrRoom, 34)
}

// P10.20: what is restored: fields, marks, queues; rows that are dead are resident; Meter and Why are zero.
func TestRestored(t *testing.T) {
	var rows []api.Row
	token := uint64(1)
	for class := range 3 {
		for queue := api.Hot; queue <= api.Cold; queue++ {
			for marks := range 16 {
				rows = append(rows, api.Row{
					Entry: api.Entry{
						Key: names(500)[token], Value: []byte(long(int(token % 3))), Flags: token << 3, Expiry: 100 * int(token%2), Token: token,
						Touched: int(token) + 7, Stale: marks&1 != 0, Won: marks&2 != 0, Hit: marks&4 != 0,
					},
					Queue: queue, Class: class, Active: marks&8 != 0,
				})
				rows[len(rows)-1].Entry = plainEntry(rows[len(rows)-1].Entry)
				token++
			}
		}
	}
	st := api.State{Now: 9, Issued: 200, Pending: 50}
	c := small()
	c.Pages = 9
	w := restored(t, c, api.Pace{Buckets: 8, Links: 3, Crawl: 4}, st, rows)
	got := sightOf(w.Store)
	if !reflect.DeepEqual(got.Rows, rows) || got.State != st {
		t.Errorf("State %+v, %d rows", got.State, len(got.Rows))
	}
	w.resident(48, 48, 48)
	w.meter(api.Meter{})
	w.why()
	bytes := 0
	for _, r := range rows {
		bytes += 58 + 4 + len(r.Entry.Value)
		w.has(r.Entry)
	}
	if w.Bytes() != bytes {
		t.Errorf("Bytes: %d, not %d", w.Bytes(), bytes)
	}
	// The table does not move any more.
	w.tells(get("none"))
	if m := w.Meter(); m.Buckets != 0 || m.Crawled != 4 {
		t.Errorf("Meter: %+v", m)
	}

	// The same behind a flush of half of them, and at a tick at which half of the others are dead.
	st.Cut, st.Now, st.Pending = 72, 100, 0
	w = restored(t, c, slow(), st, rows)
	w.resident(48, 48, 48)
	live := slices.DeleteFunc(slices.Clone(rows), func(r api.Row) bool { return r.Entry.Token <= 72 || r.Entry.Expiry > 0 })
	if got := sightOf(w.Store).Rows; !reflect.DeepEqual(got, live) {
		t.Errorf("%d live rows, not %d", len(got), len(live))
	}
	w.tells(get("k001", "k071", "k072", "k073", "k074"), "k074")
	w.why(2, 2, 3, 2, 0)
	// The wheel knows those that have a time: they are looked at first.
	w.ticks(1)
	w.resident(24, 23, 29)
	w.meter(api.Meter{Crawled: 64})
}

// P10.20: what Restore makes of a store's own State and Rows tells the same, and goes on.
func TestRestoreOfAStore(t *testing.T) {
	w := opened(t, small())
	for i, key := range names(90) {
		w.stores(till(set(key, long(i)), i%4*5))
		w.tells(get(names(90)[i/2]), names(90)[i/2])
	}
	w.is(flush(8), api.Fine)
	w.ticks(6)
	must := sightOf(w.Store)
	r := restored(t, small(), slow(), w.State(), w.Rows())
	got := sightOf(r.Store)
	if got.State != must.State || !reflect.DeepEqual(got.Rows, must.Rows) || len(got.Rows) == 0 || got.Len != len(got.Rows) {
		t.Errorf("%+v, not %+v", got, must)
	}
	r.stores(set("next", "x"))
	if e := r.entry("next"); e.Token != 91 {
		t.Errorf("the next token: %d", e.Token)
	}
	r.ticks(2)
	r.lacks(names(90)...)
	r.lacks("next")
}
