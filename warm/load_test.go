package warm_test

import (
	"math"
	"slices"
	"strings"
	"testing"

	"granary/api"
	"granary/store"
	"granary/warm"
)

// starting are the acts of a Load on a disk that is made by begin.
func starting(t *testing.T, begin func(w *world)) []string {
	t.Helper()
	return actsOf(t, func() (*world, func(w *world) error) {
		w := disk(t, plenty)
		begin(w)
		return w, func(w *world) error {
			s, start, err := warm.Load(w.Disk, small(), 1)
			if (s == nil) != (err != nil) || err != nil && start != (api.Start{}) {
				t.Fatalf("Load: %v, %+v, %v", s, start, err)
			}
			return err
		}
	})
}

var leaping = []string{"create warm.meta.new", "append warm.meta.new", "sync warm.meta.new", "rename warm.meta.new", "syncnames"}

// P18.13: the acts of a Load.
func TestActsOfLoad(t *testing.T) {
	s := filled(t, "a")
	other := opened(t, wide())
	equal(t, starting(t, func(w *world) {}))
	equal(t, starting(t, func(w *world) { w.file(dataA, ""); w.file(dataB, "") }))
	equal(t, starting(t, func(w *world) { w.file(theMeta, "none that stands"); w.file(dataA, ""); w.file(dataB, "") }))
	equal(t, starting(t, func(w *world) { w.saves(s) }), leaping)
	equal(t, starting(t, func(w *world) { w.saves(s); w.saves(s) }), []string{"remove warm.a", "syncnames"}, leaping)
	equal(t, starting(t, func(w *world) { w.saves(s); w.saves(s); w.saves(s) }), []string{"remove warm.b", "syncnames"}, leaping)
	equal(t, starting(t, func(w *world) { w.saves(s); w.saves(s); w.loads(1, taken(1, 0, 2)) }), leaping)
	equal(t, starting(t, func(w *world) { w.file(newMeta, "") }), []string{"remove warm.meta.new", "syncnames"})
	equal(t, starting(t, func(w *world) { w.file(newMeta, ""); w.file(dataB, ""); w.file(theMeta, "") }), []string{"remove warm.meta.new", "syncnames"})
	equal(t, starting(t, func(w *world) { w.saves(s); w.file(newMeta, "") }), []string{"remove warm.meta.new", "syncnames"}, leaping)
	equal(t, starting(t, func(w *world) { w.saves(s); w.saves(s); w.file(newMeta, "") }), []string{"remove warm.meta.new", "remove warm.a", "syncnames"}, leaping)
	equal(t, starting(t, func(w *world) { w.saves(other); w.saves(other) }), []string{"remove warm.a", "syncnames"}) // cold, but a meta stands
	equal(t, starting(t, func(w *world) { w.saves(s); w.saves(s); w.file(dataB, "other") }), []string{"remove warm.a", "syncnames"})
	equal(t, starting(t, func(w *world) { w.saves(s); w.fine(w.Remove(dataA), w.SyncNames()) }))
}

// P18.13: the acts of a Load, where the disk is loose.
func TestActsOfLoadLoose(t *testing.T) {
	s := filled(t, "a")
	equal(t, starting(t, func(w *world) { w.Create("x") }), []string{"syncnames"})
	equal(t, starting(t, func(w *world) { w.file("x", ""); w.Append("x", []byte("y")) }), []string{"syncnames"})
	equal(t, starting(t, func(w *world) { w.Create(newMeta) }), []string{"syncnames", "remove warm.meta.new", "syncnames"})
	equal(t, starting(t, func(w *world) { w.Create(theMeta); w.Create(dataA) }), []string{"sync warm.meta", "syncnames"})
	equal(t, starting(t, func(w *world) { w.saves(s); w.Create("x") }), []string{"sync warm.a", "sync warm.meta", "syncnames"}, leaping)
	equal(t, starting(t, func(w *world) { w.saves(s); w.Remove(dataA) }), []string{"sync warm.meta", "syncnames"})
	equal(t, starting(t, func(w *world) { w.saves(s); w.Remove(theMeta) }), []string{"syncnames"})
	equal(t, starting(t, func(w *world) { w.saves(s); w.plan(9, api.Ahead, 0); w.is(warm.Save(w.Disk, s), api.ErrIO) }),
		[]string{"sync warm.b", "sync warm.meta", "syncnames", "remove warm.a", "syncnames"}, leaping)
	equal(t, starting(t, func(w *world) { w.saves(s); w.plan(6, api.Behind, 0); w.is(warm.Save(w.Disk, s), api.ErrIO) }),
		[]string{"sync warm.a", "sync warm.meta", "syncnames", "remove warm.meta.new", "remove warm.b", "syncnames"}, leaping)
}

// P18.13: what is refused first, and that nothing is begun then.
func TestLoadRefused(t *testing.T) {
	few := small()
	few.Pages = 2
	shares := small()
	shares.Hot = 90
	many := small()
	many.PageSize, many.Factor, many.ItemLimit, many.Pages = 1<<20, 105, 1<<20, 1024
	w := disk(t, plenty)
	w.fine(w.Create("x"))
	for _, now := range []int{0, -1, math.MinInt, 1<<40 + 1, math.MaxInt} {
		w.refusesLoad(small(), now, "load", "", api.ErrArg)
		w.refusesLoad(few, now, "load", "", api.ErrArg)
	}
	if s, start, err := warm.Load(nil, few, 1); s != nil || start != (api.Start{}) || whyOf(t, err) != api.ErrArg {
		t.Errorf("of no disk: %v", err)
	}
	for range 2 {
		w.refusesLoad(few, 1, "load", "", api.ErrSmall)
		w.refusesLoad(shares, 1, "load", "", api.ErrArg)
		w.refusesLoad(many, 1, "load", "", api.ErrMany)
		w.refusesLoad(api.Config{}, 1, "load", "", api.ErrArg)
		w.plan(1, api.Late, 0) // and the same without power
		w.Sync("x")
	}
	w.begun(3)
	w.refusesLoad(small(), 1, "load", "", api.ErrDown)
	w.refusesLoad(small(), 0, "load", "", api.ErrArg)
	w.begun(3)
	w.Restart(api.Cut{})
	w.loads(1<<40, cold(api.ErrMissing))
}

// P18.13: the first act that is refused ends a Load, of whatever kind: no store, and its fault. Behind it, with power, a Load goes on as ever.
func TestLoadEnds(t *testing.T) {
	s := filled(t, "a")
	acts := slices.Concat([]string{"sync warm.b", "sync warm.meta", "syncnames", "remove warm.meta.new", "remove warm.a", "syncnames"}, leaping)
	for kind, why := range map[int]api.Errno{api.Ahead: api.ErrIO, api.Behind: api.ErrIO, api.Tear: api.ErrIO, api.Room: api.ErrSpace, api.Lose: api.ErrDown, api.Late: api.ErrDown} {
		for n, act := range acts {
			w := disk(t, plenty)
			w.saves(s)
			w.saves(s)
			w.fine(w.Create(newMeta))
			was := w.Acts()
			w.plan(n+1, kind, 1)
			call, name, _ := strings.Cut(act, " ")
			w.refusesLoad(small(), 1, call, name, why)
			w.begun(was + n + 1)
			w.Restart(api.Cut{Names: 9, Bytes: []int{9, 9, 9, 9}})
			w.loads(1, taken(1, 0, 2))
		}
	}
}

// P18.14: why a start is cold, in the table's order: each fault of a picture with all that come behind it.
func TestWhyCold(t *testing.T) {
	rows := []api.Row{row("a", 1, "x", 0)}
	// Each spoils what it names, and what a start asks behind that, too.
	spoilt := func(m *saying, from int) {
		if from <= 3 {
			m.Factor++
		}
		if from <= 5 {
			m.Sum++
		}
		if from <= 6 {
			m.Issued = math.MaxUint64
		}
		m.Items = 9
	}
	for _, x := range []struct {
		from int
		must api.Errno
	}{
		{1, api.ErrMissing}, {2, api.ErrCorrupt}, {3, api.ErrArg}, {4, api.ErrMissing}, {5, api.ErrCorrupt}, {6, api.ErrTokens}, {7, api.ErrForm},
	} {
		w := disk(t, plenty)
		meta, data := made(small(), api.State{Now: 1, Issued: 1}, rows, func(m *saying) { spoilt(m, x.from) })
		if x.from == 2 {
			meta[90]++
		}
		w.picture(meta, data)
		if x.from <= 4 {
			w.fine(w.Remove(dataA), w.SyncNames())
		}
		if x.from == 1 {
			w.fine(w.Remove(theMeta), w.SyncNames())
		}
		was := w.Acts()
		s := w.loads(50, cold(x.must))
		w.begun(was)
		if s.Len() != 0 || s.State() != (api.State{Now: 1}) || s.Config() != small() {
			t.Errorf("%d: %+v", x.from, s.State())
		}
		if got := tokenOf(t, s, "k"); got != 1 {
			t.Errorf("%d: token %d", x.from, got)
		}
	}
}

// P18.14: each number of the geometry is held against c's.
func TestGeometry(t *testing.T) {
	for i, change := range []func(c *api.Config){
		func(c *api.Config) { c.PageSize *= 2 }, func(c *api.Config) { c.Pages++ }, func(c *api.Config) { c.Factor++ }, func(c *api.Config) { c.MinChunk = 72 },
		func(c *api.Config) { c.ItemLimit-- }, func(c *api.Config) { c.Hot++ }, func(c *api.Config) { c.Warm-- },
	} {
		w := disk(t, plenty)
		w.saves(filled(t, "a"))
		c := small()
		change(&c)
		if s := w.loadsOf(c, 1, cold(api.ErrArg)); s.Config() != c {
			t.Errorf("%d: %v", i, s.Config())
		}
		w.loads(1, taken(1, 0, 1)) // the picture is there still
	}
	for i, change := range []func(m *saying){
		func(m *saying) { m.PageSize |= 1 << 31 }, func(m *saying) { m.Pages |= 1 << 24 }, func(m *saying) { m.Factor |= 1 << 31 }, func(m *saying) { m.MinChunk |= 1 << 31 },
		func(m *saying) { m.Limit |= 1 << 31 }, func(m *saying) { m.Hot |= 1 << 7 }, func(m *saying) { m.Warm |= 1 << 7 },
	} {
		meta, data := made(small(), api.State{Now: 1}, nil, change)
		if got := warm.Check(meta, data, small()); got != cold(api.ErrArg) {
			t.Errorf("%d: %+v", i, got)
		}
	}
}

// P18.14: the data's length and sum are both held against the meta.
func TestDataCorrupt(t *testing.T) {
	rows := []api.Row{row("a", 1, "x", 0)}
	for _, x := range []struct {
		change func(m *saying)
		must   api.Start
	}{
		{func(m *saying) {}, taken(1, 0, 1)},
		{func(m *saying) { m.Length++ }, cold(api.ErrCorrupt)},
		{func(m *saying) { m.Length = 0 }, cold(api.ErrCorrupt)},
		{func(m *saying) { m.Length |= 1 << 63 }, cold(api.ErrCorrupt)},
		{func(m *saying) { m.Length |= 1 << 32 }, cold(api.ErrCorrupt)},
		{func(m *saying) { m.Sum ^= 1 << 63 }, cold(api.ErrCorrupt)},
	} {
		w := disk(t, plenty)
		w.picture(made(small(), api.State{Now: 1, Issued: 1}, rows, x.change))
		w.loads(1, x.must)
	}
}

// P18.13: the data file that is loaded is the one that the meta names; the other one goes.
func TestWhichFile(t *testing.T) {
	for which := range uint8(2) {
		w := disk(t, plenty)
		meta, data := made(small(), api.State{Now: 1, Issued: 1}, []api.Row{row("a", 1, "x", 0)}, func(m *saying) { m.Which, m.Number = which, 1<<63 })
		w.file(dataA, "other")
		w.file(dataB, "other")
		w.file("bystander", "b")
		w.picture(meta, data)
		w.loads(1, taken(1, 0, math.MinInt))
		names := []string{"bystander", dataA, theMeta}
		if which == 1 {
			names[1] = dataB
		}
		w.named(names...)
		w.loose(false)
	}
}

// P18.13: what is laid down by a warm start: the meta with its issued greater by 2^32, and nothing else.
func TestLeap(t *testing.T) {
	w := disk(t, plenty)
	d := diceOf(3)
	s := opened(t, small())
	d.work(s, 200)
	flush(s, 900)
	s.Tick(7)
	w.saves(s)
	must := says(t, []byte(w.bytes(theMeta)))
	data := w.bytes(dataA)
	for range 3 {
		got, start, err := warm.Load(w.Disk, small(), 1)
		w.fine(err)
		if !start.Warm || got.Issued() != must.Issued+1<<32 {
			t.Fatalf("%+v: issued %d", start, got.Issued())
		}
		must.Issued += 1 << 32
		w.holds(theMeta, string(must.bytes()))
		w.holds(dataA, data)
		w.loose(false)
		w.named(dataA, theMeta)
	}
}

// P18.15: the clock of a warm store, and which items are in it.
func TestClocks(t *testing.T) {
	till := func(key string, token uint64, expiry int) api.Row {
		r := row(key, token, "x", 0)
		r.Entry.Expiry = expiry
		return r
	}
	rows := []api.Row{till("a", 1, 0), till("b", 4, 15), till("c", 9, 16), till("d", 3, 9), till("e", 2, 0)}
	for _, x := range []struct {
		st    api.State
		now   int
		clock api.State
		keys  string
	}{
		{api.State{Now: 10, Issued: 9}, 1, api.State{Now: 10}, "a b c e"},
		{api.State{Now: 10, Issued: 9}, 10, api.State{Now: 10}, "a b c e"},
		{api.State{Now: 10, Issued: 9}, 14, api.State{Now: 14}, "a b c e"},
		{api.State{Now: 10, Issued: 9}, 15, api.State{Now: 15}, "a c e"},
		{api.State{Now: 10, Issued: 9}, 1 << 40, api.State{Now: 1 << 40}, "a e"},
		{api.State{Now: 8, Issued: 9}, 8, api.State{Now: 8}, "a b c d e"},
		{api.State{Now: 10, Issued: 9, Cut: 2}, 5, api.State{Now: 10, Cut: 2}, "b c"},
		{api.State{Now: 10, Issued: 9, Cut: 9}, 5, api.State{Now: 10, Cut: 9}, ""},
		{api.State{Now: 10, Issued: 9, Pending: 13}, 12, api.State{Now: 12, Pending: 13}, "a b c e"},
		{api.State{Now: 10, Issued: 9, Pending: 13}, 13, api.State{Now: 13, Cut: 9}, ""},
		{api.State{Now: 10, Issued: 9, Pending: 13}, 99, api.State{Now: 99, Cut: 9}, ""},
		{api.State{Now: 10, Issued: 20, Cut: 1, Pending: 13}, 99, api.State{Now: 99, Cut: 20}, ""},
		{api.State{Now: 10, Issued: 9, Pending: 1<<40 + 1}, 1 << 40, api.State{Now: 1 << 40, Pending: 1<<40 + 1}, "a e"},
		{api.State{Now: 1 << 40, Issued: 9}, 1 << 40, api.State{Now: 1 << 40}, "a e"},
	} {
		w := disk(t, plenty)
		w.picture(made(small(), x.st, rows, nil))
		items := len(strings.Fields(x.keys))
		s := w.loads(x.now, taken(items, 5-items, 1))
		x.clock.Issued = x.st.Issued + 1<<32
		if s.State() != x.clock || keysOf(s) != x.keys || s.Len() != items {
			t.Errorf("%+v at %d: %+v, %q, %d items; not %+v, %q", x.st, x.now, s.State(), keysOf(s), s.Len(), x.clock, x.keys)
		}
		if e, ok := s.Find("a"); ok && e.Token != 1 {
			t.Errorf("a: %+v", e)
		}
		if got := tokenOf(t, s, "new"); got != x.st.Issued+1<<32+1 {
			t.Errorf("the next token: %d", got)
		}
	}
}

// P18.15 and P18.19: a Load behind a Save tells the saved store's Rows and clock, and goes on as it does.
func TestLoadIsSaved(t *testing.T) {
	for seed := range uint64(80) {
		d := diceOf(seed)
		c := pick(d, small(), wide())
		s := opened(t, c)
		d.work(s, d.IntN(400))
		w := disk(t, plenty)
		w.saves(s)
		rows, st := s.Rows(), s.State()
		got := w.loadsOf(c, pick(d, 1, st.Now), taken(len(rows), 0, 1))
		if !sameRows(got.Rows(), rows) {
			t.Fatalf("Rows: %+v, not %+v", got.Rows(), rows)
		}
		if g := got.State(); g.Now != st.Now || g.Cut != st.Cut || g.Pending != st.Pending || g.Issued != st.Issued+1<<32 {
			t.Fatalf("State: %+v, not %+v", g, st)
		}
		if got.Config() != c || got.Meter() != (api.Meter{}) || len(got.Why()) != 0 {
			t.Fatal("the store is not as Restore makes it")
		}
		w.goesOn(d, got, c, st, rows)
	}
}

// goesOn: does a store go on as one that is restored with the Pace {8, 3, 4}?
func (w *world) goesOn(d dice, s *store.Store, c api.Config, st api.State, rows []api.Row) {
	w.Helper()
	st.Issued += 1 << 32
	must := restored(w.T, c, st, rows)
	for range 60 {
		seed := d.Uint64()
		diceOf(seed).work(s, 3)
		diceOf(seed).work(must, 3)
		if s.Meter() != must.Meter() || s.State() != must.State() || s.Len() != must.Len() {
			w.Fatalf("%+v, not %+v", s.Meter(), must.Meter())
		}
	}
	if !sameRows(s.Rows(), must.Rows()) {
		w.Fatal("the rows are others")
	}
}

// P18.13: a Load takes nothing of c but what it is: a Save goes on behind it.
func TestSaveBehindLoad(t *testing.T) {
	w := disk(t, plenty)
	s := filled(t, "a", "b")
	w.saves(s)
	for n := 1; n < 6; n++ {
		s = w.loads(1, taken(n+1, 0, n))
		sets(s, "y", strings.Repeat("k", n))
		w.saves(s)
		if m := says(t, []byte(w.bytes(theMeta))); m.Number != uint64(n+1) || m.Issued != s.Issued() {
			t.Errorf("%+v", m)
		}
	}
}
