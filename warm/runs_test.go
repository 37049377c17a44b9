package warm_test

import (
	"strings"
	"testing"

	"granary/api"
	"granary/warm"
)

// The runs of the chapter that are about the disk.
func TestRunsOfTheDisk(t *testing.T) {
	w := disk(t, 0)
	w.fine(w.Create("a"))
	w.is(w.Append("a", []byte("x")), api.ErrSpace)

	w = disk(t, 3)
	w.fine(w.Create("a"))
	w.is(w.Append("a", []byte("abcd")), api.ErrSpace)
	w.holds("a", "abc")

	w = disk(t, 100)
	w.fine(w.Create("a"), w.Append("a", []byte("xy")))
	w.Restart(api.Cut{})
	w.named()

	w = disk(t, 100)
	w.fine(w.Create("a"), w.SyncNames(), w.Append("a", []byte("xy")))
	w.Restart(api.Cut{Bytes: []int{1}})
	w.holds("a", "x")

	w = disk(t, 100)
	w.fine(w.Create("a"), w.SyncNames(), w.Create("b"), w.Remove("a"))
	w.Restart(api.Cut{Names: 1})
	w.named("a", "b")

	w = disk(t, 100)
	w.fine(w.Create("a"), w.Sync("a"), w.SyncNames(), w.Rename("a", "b"))
	w.loose(true)
	w.Restart(api.Cut{})
	w.named("a")

	w = disk(t, 100)
	w.is(w.Create(""), api.ErrName)
	w.is(w.Create(strings.Repeat("x", 33)), api.ErrName)
	_, err := w.Read("x")
	w.is(err, api.ErrMissing)
	w.is(w.Sync("x"), api.ErrMissing)
	w.is(w.Rename("x", "y"), api.ErrMissing)
	w.is(w.Rename("x", ""), api.ErrName)
}

// Those that are about plans and words.
func TestRunsOfPlans(t *testing.T) {
	w := disk(t, 100)
	w.Plan(api.Fault{Step: 2, Kind: api.Tear, Part: 1})
	w.fine(w.Create("a"))
	w.is(w.Append("a", []byte("xy")), api.ErrIO)
	w.holds("a", "x")
	w.begun(2)

	w = disk(t, 100)
	w.Plan(api.Fault{Step: 1, Kind: api.Behind}, api.Fault{Step: 1, Kind: api.Ahead})
	w.is(w.Create("a"), api.ErrIO)
	w.is(w.Create("a"), api.ErrExists)
	if got := w.Create("a").Error(); got != "create a: exists" {
		t.Error(got)
	}

	w = disk(t, 100)
	w.Plan(api.Fault{Step: 1, Kind: api.Late})
	w.is(w.Create("a"), api.ErrDown)
	if w.Power() {
		t.Error("power")
	}
	w.named()
	w.is(w.Create("b"), api.ErrDown)
	w.Restart(api.Cut{Names: 1})
	w.named("a")
	w.begun(2)
	w.Plan(api.Fault{Step: 3, Kind: api.Lose})
	w.Sync("a")
	if got := w.SyncNames().Error(); got != "syncnames: no power" {
		t.Error(got)
	}
}

// Those that are about Save and Load.
func TestRunsOfPictures(t *testing.T) {
	w := disk(t, plenty)
	w.loads(1, cold(api.ErrMissing))
	w.begun(0)
	w.saves(opened(t, small()))
	w.begun(8)

	w = disk(t, plenty)
	s := filled(t, "a", "b")
	w.saves(s)
	w.begun(9)
	if got := tokenOf(t, w.loads(1, taken(2, 0, 1)), "c"); got != 1<<32+3 {
		t.Errorf("c's token: %d", got)
	}
	if got := tokenOf(t, w.loads(1, taken(2, 0, 1)), "d"); got != 1<<33+3 {
		t.Errorf("d's token: %d", got)
	}

	w = disk(t, plenty)
	w.saves(s)
	w.named(dataA, theMeta)
	w.saves(s)
	w.named(dataA, dataB, theMeta)
	w.begun(18)
	w.saves(s)
	w.begun(28)
	w.named(dataA, dataB, theMeta)
	if m := says(t, []byte(w.bytes(theMeta))); m.Which != 0 || m.Number != 3 {
		t.Errorf("%+v", m)
	}

	w = disk(t, plenty)
	w.saves(s)
	w.fine(w.Create("x"))
	w.plan(1, api.Ahead, 0)
	w.refusesLoad(small(), 1, "sync", dataA, api.ErrIO)
}

// Those that are about a second Save that is refused.
func TestRunsOfLosses(t *testing.T) {
	for _, x := range []struct {
		kind, at, names int
		why             api.Errno
		must            api.Start
	}{
		{api.Lose, 8, 0, api.ErrDown, taken(1, 0, 1)},
		{api.Late, 8, 0, api.ErrDown, taken(1, 0, 1)},
		{api.Late, 8, 9, api.ErrDown, taken(2, 0, 2)},
	} {
		w := disk(t, plenty)
		w.saves(filled(t, "a"))
		w.plan(x.at, x.kind, 0)
		w.faults(warm.Save(w.Disk, filled(t, "a", "b")), "rename", newMeta, x.why)
		w.Restart(api.Cut{Names: x.names})
		w.loads(1, x.must)
	}
	w := disk(t, plenty)
	w.saves(filled(t, "a"))
	w.plan(9, api.Ahead, 0)
	w.faults(warm.Save(w.Disk, filled(t, "a", "b")), "syncnames", "", api.ErrIO)
	w.loads(1, taken(2, 0, 2))
	w.Restart(api.Cut{})
	w.loads(1, taken(2, 0, 2))
}

// Those that are about the clock.
func TestRunsOfTheClock(t *testing.T) {
	w := disk(t, plenty)
	s := opened(t, small())
	s.Tick(9)
	setTill(s, "x", 5, "a")
	sets(s, "x", "b")
	w.saves(s)
	if got := w.loads(5, taken(2, 0, 1)); got.Now() != 10 {
		t.Errorf("Now %d", got.Now())
	}
	if got := w.loads(20, taken(1, 1, 1)); got.Now() != 20 {
		t.Errorf("Now %d", got.Now())
	}
	w = disk(t, plenty)
	s = filled(t, "a", "b")
	flush(s, 5)
	w.saves(s)
	w.loads(9, taken(0, 2, 1))
}

// Those that are about spoilt pictures.
func TestRunsOfSpoiltPictures(t *testing.T) {
	meta, data := warm.Picture(filled(t, "a", "b"), 1)
	turned := []byte(string(data))
	turned[20] ^= 4
	checks(t, "one byte of the data turned", meta, turned, cold(api.ErrCorrupt))
	m := says(t, meta)
	m.Factor++
	checks(t, "another Factor", m.bytes(), data, cold(api.ErrArg))
	m = says(t, meta)
	m.Length, m.Sum = 38, sumOf(data[:38])
	checks(t, "the data one item short", m.bytes(), data[:38], cold(api.ErrForm))
	st := api.State{Now: 1, Issued: 5}
	meta, data = made(small(), st, []api.Row{row("a", 1, "x", 0), row("a", 2, "x", 0)}, nil)
	checks(t, "a key twice", meta, data, cold(api.ErrForm))
	meta, data = made(small(), st, []api.Row{row("a", 1, "x", 3)}, nil)
	checks(t, "a class that there is not", meta, data, cold(api.ErrForm))
}

// The examples of the chapter.
func TestExamples(t *testing.T) {
	meta, data := warm.Picture(opened(t, small()), 1)
	if len(meta) != 91 || len(data) != 0 {
		t.Errorf("an empty store: %d and %d bytes", len(meta), len(data))
	}
	s := opened(t, small())
	sets(s, "xy", "a")
	meta, data = warm.Picture(s, 12)
	if len(data) != 39 {
		t.Errorf("%d bytes of data", len(data))
	}
	if got := warm.Check(meta, data, s.Config()); got != taken(1, 0, 12) {
		t.Errorf("%+v", got)
	}
}
