package warm_test

import (
	"math"
	"slices"
	"strings"
	"testing"

	"granary/api"
	"granary/store"
	"granary/warm"
)

// checks: does Check say that, and a Load of a disk that holds the picture too?
func checks(t *testing.T, what string, meta, data []byte, must api.Start) {
	t.Helper()
	if got := warm.Check(meta, data, small()); got != must {
		t.Errorf("%s: Check: %+v, not %+v", what, got, must)
	}
	w := disk(t, plenty)
	w.picture(meta, data)
	if s, start, err := warm.Load(w.Disk, small(), 1); err != nil || s == nil || start != must {
		t.Errorf("%s: Load: %+v %v, not %+v", what, start, err, must)
	}
}

// P18.16: what store.New refuses of c comes first.
func TestCheckOfConfig(t *testing.T) {
	meta, data := warm.Picture(filled(t, "a"), 3)
	few := small()
	few.Pages = 2
	for _, c := range []api.Config{few, {}, {PageSize: math.MaxInt}} {
		_, e := store.New(c)
		for _, m := range [][]byte{meta, nil} {
			if got := warm.Check(m, data, c); got != cold(e) || e == api.OK {
				t.Errorf("Check with %v: %+v", c, got)
			}
		}
	}
	checks(t, "a picture", meta, data, taken(1, 0, 3))
	checks(t, "no meta", nil, data, cold(api.ErrCorrupt))
	checks(t, "an empty meta", []byte{}, nil, cold(api.ErrCorrupt))
	checks(t, "no data", meta, nil, cold(api.ErrCorrupt))
	other := small()
	other.Pages++
	if got := warm.Check(meta, data, other); got != cold(api.ErrArg) {
		t.Errorf("another geometry: %+v", got)
	}
}

// The third example: a Picture of a store and its Config is warm, with its number.
func TestCheckOfPictures(t *testing.T) {
	for seed := range uint64(60) {
		d := diceOf(seed)
		s := opened(t, small())
		d.work(s, d.IntN(300))
		number := d.number(1 << 30)
		meta, data := warm.Picture(s, number)
		checks(t, "a picture", meta, data, taken(len(s.Rows()), 0, number))
	}
}

// P18.19: with any byte another one, meta or data, Check says ErrCorrupt.
func TestTurned(t *testing.T) {
	s := filled(t, "a", "bcd")
	setTill(s, "value", 5, "e")
	meta, data := warm.Picture(s, 1)
	for i := range meta {
		for by := 1; by < 256; by++ {
			m := slices.Clone(meta)
			m[i] ^= byte(by)
			if got := warm.Check(m, data, small()); got != cold(api.ErrCorrupt) {
				t.Fatalf("byte %d of the meta turned by %d: %+v", i, by, got)
			}
		}
	}
	for i := range data {
		for by := 1; by < 256; by += 2 {
			b := slices.Clone(data)
			b[i] ^= byte(by)
			if got := warm.Check(meta, b, small()); got != cold(api.ErrCorrupt) {
				t.Fatalf("byte %d of the data turned by %d: %+v", i, by, got)
			}
		}
	}
	for n := range data {
		if got := warm.Check(meta, data[:n], small()); got != cold(api.ErrCorrupt) {
			t.Fatalf("%d bytes of data: %+v", n, got)
		}
	}
	for n := range meta {
		if got := warm.Check(meta[:n], data, small()); got != cold(api.ErrCorrupt) {
			t.Fatalf("%d bytes of meta: %+v", n, got)
		}
	}
	checks(t, "a byte more", meta, append(slices.Clone(data), 0), cold(api.ErrCorrupt))
	checks(t, "a byte more of meta", append(slices.Clone(meta), 0), data, cold(api.ErrCorrupt))
}

// P18.14: the data are not just as many items as the meta says, sums right.
func TestItemsCounted(t *testing.T) {
	rows := []api.Row{row("a", 1, "x", 0), row("b", 2, "", 1), row("c", 3, "yz", 2)}
	st := api.State{Now: 1, Issued: 9}
	whole := dataOf(rows)
	one := func(what string, data []byte, items uint32, must api.Start) {
		t.Helper()
		m := of(small(), st, 0, data)
		m.Items, m.Number = items, 1
		checks(t, what, m.bytes(), data, must)
	}
	one("all", whole, 3, taken(3, 0, 1))
	one("one fewer is said", whole, 2, cold(api.ErrForm))
	one("one more is said", whole, 4, cold(api.ErrForm))
	one("none is said", whole, 0, cold(api.ErrForm))
	one("very many are said", whole, math.MaxUint32, cold(api.ErrForm))
	one("one is said of none", nil, 1, cold(api.ErrForm))
	one("none", nil, 0, taken(0, 0, 1))
	one("one short", dataOf(rows[:2]), 3, cold(api.ErrForm))
	for n := 1; n < len(whole); n++ {
		ends := n == 38 || n == 38+37
		for items := range uint32(4) {
			must := cold(api.ErrForm)
			if ends && int(items) == 1+n/50 {
				must = taken(int(items), 0, 1)
			}
			one("cut", whole[:n], items, must)
		}
		one("with a rest", append(slices.Clone(whole), whole[:n]...), 3, cold(api.ErrForm))
	}
	long := slices.Clone(whole)
	copy(long[1:], "\xff\xff\xff\xff") // a value of 2^32 - 1 bytes
	one("a value that is not there", long, 3, cold(api.ErrForm))
	long = slices.Clone(whole)
	long[0] = 255
	one("a key that is not there", long, 3, cold(api.ErrForm))
}

// P18.14: an item that store.Restore refuses, or whose marks are above 15.
func TestForm(t *testing.T) {
	st := api.State{Now: 3, Issued: 9, Cut: 1}
	plain := []api.Row{row("a", 2, "x", 0), row("b", 3, "y", 1), row("c", 4, "z", 2)}
	for at := range plain {
		for _, x := range []struct {
			what  string
			spoil func(r *api.Row)
			must  api.Start
		}{
			{"nothing", func(r *api.Row) {}, taken(3, 0, 1)},
			{"no key", func(r *api.Row) { r.Entry.Key = "" }, cold(api.ErrForm)},
			{"a blank in its key", func(r *api.Row) { r.Entry.Key = "k k" }, cold(api.ErrForm)},
			{"a key of 251 bytes", func(r *api.Row) { r.Entry.Key = strings.Repeat("k", 251) }, cold(api.ErrForm)},
			{"no token", func(r *api.Row) { r.Entry.Token = 0 }, cold(api.ErrForm)},
			{"a token that was not issued", func(r *api.Row) { r.Entry.Token = 10 }, cold(api.ErrForm)},
			{"the last token", func(r *api.Row) { r.Entry.Token = 9 }, taken(3, 0, 1)},
			{"a flushed token", func(r *api.Row) { r.Entry.Token = 1 }, taken(2, 1, 1)},
			{"an expiry below 0", func(r *api.Row) { r.Entry.Expiry = -1 }, cold(api.ErrForm)},
			{"the least expiry", func(r *api.Row) { r.Entry.Expiry = math.MinInt }, cold(api.ErrForm)},
			{"the greatest expiry", func(r *api.Row) { r.Entry.Expiry = math.MaxInt }, taken(3, 0, 1)},
			{"an expiry that has come", func(r *api.Row) { r.Entry.Expiry = 3 }, taken(2, 1, 1)},
			{"one that comes", func(r *api.Row) { r.Entry.Expiry = 4 }, taken(3, 0, 1)},
			{"touched below 0", func(r *api.Row) { r.Entry.Touched = -1 }, cold(api.ErrForm)},
			{"touched later", func(r *api.Row) { r.Entry.Touched = math.MaxInt }, taken(3, 0, 1)},
			{"the greatest flags", func(r *api.Row) { r.Entry.Flags = math.MaxUint32 }, taken(3, 0, 1)},
			{"no queue", func(r *api.Row) { r.Queue = 0 }, cold(api.ErrForm)},
			{"queue 4", func(r *api.Row) { r.Queue = 4 }, cold(api.ErrForm)},
			{"queue 255", func(r *api.Row) { r.Queue = 255 }, cold(api.ErrForm)},
			{"queue 3", func(r *api.Row) { r.Queue = 3 }, taken(3, 0, 1)},
			{"a class that there is not", func(r *api.Row) { r.Class = 3 }, cold(api.ErrForm)},
			{"class 255", func(r *api.Row) { r.Class = 255 }, cold(api.ErrForm)},
			{"a greater class", func(r *api.Row) { r.Class = 2 }, taken(3, 0, 1)},
			{"a value above its chunk", func(r *api.Row) { r.Entry.Value = make([]byte, 200) }, cold(api.ErrForm)},
			{"another's key", func(r *api.Row) { r.Entry.Key = plain[(at+1)%3].Entry.Key }, cold(api.ErrForm)},
			{"another's token", func(r *api.Row) { r.Entry.Token = plain[(at+1)%3].Entry.Token }, cold(api.ErrForm)},
		} {
			rows := slices.Clone(plain)
			x.spoil(&rows[at])
			meta, data := made(small(), st, rows, nil)
			checks(t, x.what, meta, data, x.must)
		}
		for marks := range 256 {
			data := dataOf(plain)
			data[at*38+33] = byte(marks)
			m := of(small(), st, 3, data)
			m.Number = 1
			must := cold(api.ErrForm)
			if marks < 16 {
				must = taken(3, 0, 1)
			}
			checks(t, "marks", m.bytes(), data, must)
		}
	}
}

// P18.14: a state that store.Restore refuses, and one that leaves no leap.
func TestStates(t *testing.T) {
	const last = math.MaxUint64 - 2<<32
	for _, x := range []struct {
		st   api.State
		must api.Start
	}{
		{api.State{Now: 0}, cold(api.ErrForm)},
		{api.State{Now: -1}, cold(api.ErrForm)},
		{api.State{Now: 1<<40 + 1}, cold(api.ErrForm)},
		{api.State{Now: 1 << 40}, taken(0, 0, 1)},
		{api.State{Now: 5, Pending: 5}, cold(api.ErrForm)},
		{api.State{Now: 5, Pending: -1}, cold(api.ErrForm)},
		{api.State{Now: 5, Pending: 6}, taken(0, 0, 1)},
		{api.State{Now: 5, Pending: math.MaxInt}, taken(0, 0, 1)},
		{api.State{Now: 5, Cut: 1}, cold(api.ErrForm)},
		{api.State{Now: 5, Cut: 7, Issued: 7}, taken(0, 0, 1)},
		{api.State{Now: 5, Cut: 7, Issued: 6}, cold(api.ErrForm)},
		{api.State{Now: 5, Issued: last}, taken(0, 0, 1)},
		{api.State{Now: 5, Issued: last, Cut: last}, taken(0, 0, 1)},
		{api.State{Now: 5, Issued: last + 1}, cold(api.ErrTokens)},
		{api.State{Now: 0, Issued: last + 1}, cold(api.ErrTokens)},
		{api.State{Now: 5, Issued: math.MaxUint64}, cold(api.ErrTokens)},
	} {
		meta, data := made(small(), x.st, nil, nil)
		checks(t, "a state", meta, data, x.must)
	}
}

// P18.14: as many items as the chunks have room for, and one more: what store.Restore refuses for room is ErrForm too.
func TestTooManyItems(t *testing.T) {
	c := small()
	c.Pages = 3
	for n, must := range map[int]api.Start{16: taken(16, 0, 1), 48: taken(48, 0, 1), 49: cold(api.ErrForm)} {
		var rows []api.Row
		for i := range n {
			rows = append(rows, row("k"+strings.Repeat("i", i), uint64(i+1), "x", 2))
		}
		meta, data := made(c, api.State{Now: 1, Issued: 99}, rows, nil)
		if got := warm.Check(meta, data, c); got != must {
			t.Errorf("%d items: %+v, not %+v", n, got, must)
		}
	}
}

// P18.14: dead items are asked of store.Restore too, and take room there; they are not in the store.
func TestDeadItemsCount(t *testing.T) {
	c := small()
	c.Pages = 3
	var rows []api.Row
	for i := range 48 {
		r := row("k"+strings.Repeat("i", i), uint64(i+1), "x", 2)
		if i > 0 {
			r.Entry.Expiry = 2
		}
		rows = append(rows, r)
	}
	meta, data := made(c, api.State{Now: 9, Issued: 99}, rows, nil)
	w := disk(t, plenty)
	w.picture(meta, data)
	if s := w.loadsOf(c, 1, taken(1, 47, 1)); s.Len() != 1 {
		t.Errorf("%d items", s.Len())
	}
	rows = append(rows, row("last", 70, "x", 2))
	meta, data = made(c, api.State{Now: 9, Issued: 99}, rows, nil)
	if got := warm.Check(meta, data, c); got != cold(api.ErrForm) {
		t.Errorf("a 49th: %+v", got)
	}
}
