package warm_test

import (
	"fmt"
	"math"
	"slices"
	"strings"
	"testing"

	"granary/api"
	"granary/store"
	"granary/warm"
)

// actsOf are the acts of a call, told by refusing each of them in turn: what is refused ends the call. Each time the disk is made anew.
func actsOf(t *testing.T, begin func() (*world, func(w *world) error)) (all []string) {
	t.Helper()
	for n := 1; n < 200; n++ {
		w, do := begin()
		was := w.Acts()
		w.plan(n, api.Ahead, 0)
		err := do(w)
		if err == nil {
			if w.Acts() != was+len(all) {
				t.Fatalf("%d acts, of which %d can be refused", w.Acts()-was, len(all))
			}
			return all
		}
		f, ok := err.(*warm.Fault)
		if !ok || f.Why != error(api.ErrIO) || w.Acts() != was+n {
			t.Fatalf("act %d: %#v", n, err)
		}
		all = append(all, strings.TrimSpace(f.Call+" "+f.Name))
	}
	t.Fatal("no end")
	return nil
}

// saving are the acts of a Save of a store on a disk that is made by begin.
func saving(t *testing.T, s *store.Store, begin func(w *world)) []string {
	t.Helper()
	return actsOf(t, func() (*world, func(w *world) error) {
		w := disk(t, plenty)
		begin(w)
		return w, func(w *world) error { return warm.Save(w.Disk, s) }
	})
}

// laying are the acts of a Save behind the first two steps.
func laying(data string, appends int) (all []string) {
	all = append(all, "create "+data)
	for range appends {
		all = append(all, "append "+data)
	}
	return append(all, "sync "+data)
}

var turning = []string{"create warm.meta.new", "append warm.meta.new", "sync warm.meta.new", "syncnames", "rename warm.meta.new", "syncnames"}

func equal(t *testing.T, got []string, parts ...[]string) {
	t.Helper()
	if must := slices.Concat(parts...); !slices.Equal(got, must) {
		t.Errorf("%q, not %q", got, must)
	}
}

// P18.12: the acts of a Save, on all kinds of disks.
func TestActsOfSave(t *testing.T) {
	s := filled(t, "a", "b")
	none := opened(t, small())
	equal(t, saving(t, s, func(w *world) {}), laying(dataA, 1), turning)
	equal(t, saving(t, none, func(w *world) {}), laying(dataA, 0), turning)
	equal(t, saving(t, s, func(w *world) { w.saves(s) }), laying(dataB, 1), turning)
	equal(t, saving(t, none, func(w *world) { w.saves(s) }), laying(dataB, 0), turning)
	equal(t, saving(t, s, func(w *world) { w.saves(s); w.saves(s) }), []string{"remove warm.a"}, laying(dataA, 1), turning)
	equal(t, saving(t, s, func(w *world) { w.saves(s); w.saves(s); w.saves(s) }), []string{"remove warm.b"}, laying(dataB, 1), turning)
	rest := append([]string{"remove warm.meta.new"}, turning...)
	equal(t, saving(t, s, func(w *world) { w.file(newMeta, "rest") }), laying(dataA, 1), rest)
	equal(t, saving(t, s, func(w *world) { w.file(dataA, "rest"); w.file(dataB, "rest") }), []string{"remove warm.a"}, laying(dataA, 1), turning)
	equal(t, saving(t, s, func(w *world) { w.saves(s); w.file(newMeta, ""); w.file(dataB, "") }), []string{"remove warm.b"}, laying(dataB, 1), rest)
	equal(t, saving(t, s, func(w *world) { w.file(theMeta, "none that stands") }), laying(dataA, 1), turning)
	equal(t, saving(t, s, func(w *world) { w.file(theMeta, "none that stands"); w.file(dataA, "x"); w.file("x", "") }), []string{"remove warm.a"}, laying(dataA, 1), turning)
	equal(t, saving(t, s, func(w *world) { w.saves(s); w.fine(w.Remove(dataA), w.SyncNames()) }), laying(dataB, 1), turning)
}

// P18.12: the acts of a Save, where the disk is loose.
func TestActsOfSaveLoose(t *testing.T) {
	s := filled(t, "a")
	one, two := laying(dataA, 1), laying(dataB, 1)
	equal(t, saving(t, s, func(w *world) { w.Create("x") }), []string{"syncnames"}, one, turning)
	equal(t, saving(t, s, func(w *world) { w.file("x", ""); w.Append("x", []byte("y")) }), []string{"syncnames"}, one, turning)
	equal(t, saving(t, s, func(w *world) { w.saves(s); w.Create("x") }), []string{"sync warm.a", "sync warm.meta", "syncnames"}, two, turning)
	equal(t, saving(t, s, func(w *world) { w.saves(s); w.saves(s); w.Create("x") }), []string{"sync warm.b", "sync warm.meta", "syncnames", "remove warm.a"}, one, turning)
	equal(t, saving(t, s, func(w *world) { w.saves(s); w.Remove(dataA) }), []string{"sync warm.meta", "syncnames"}, two, turning)
	equal(t, saving(t, s, func(w *world) { w.saves(s); w.Remove(theMeta) }), []string{"syncnames", "remove warm.a"}, one, turning)
	equal(t, saving(t, s, func(w *world) { w.file(dataA, "x"); w.file(theMeta, "x"); w.Create("x") }), []string{"sync warm.meta", "syncnames", "remove warm.a"}, one, turning)
	equal(t, saving(t, s, func(w *world) { w.saves(s); w.plan(9, api.Ahead, 0); w.is(warm.Save(w.Disk, s), api.ErrIO) }), []string{"sync warm.b", "sync warm.meta", "syncnames", "remove warm.a"}, one, turning)
}

// P18.12: the data go in pieces of 65536 bytes, the last one shorter; the meta in one.
func TestPieces(t *testing.T) {
	c := wide()
	c.PageSize, c.Pages, c.ItemLimit = 1<<18, 13, 1<<18
	for _, n := range []int{1, 65536 - 37, 65536 - 36, 65536, 2*65536 - 37, 2*65536 - 36, 2*65536 - 100} {
		s := opened(t, c)
		sets(s, strings.Repeat("x", n), "a")
		if s.Len() != 1 {
			t.Fatalf("%d bytes are not stored", n)
		}
		size := n + 37
		w := disk(t, plenty)
		appends := (size + 65535) / 65536
		equal(t, saving(t, s, func(w *world) {}), laying(dataA, appends), turning)
		for i := range appends {
			w = disk(t, plenty)
			w.plan(2+i, api.Behind, 0)
			w.faults(warm.Save(w.Disk, s), "append", dataA, api.ErrIO)
			if got := len(w.bytes(dataA)); got != min(size, (i+1)*65536) {
				t.Errorf("%d bytes behind the Append %d of %d", got, i, size)
			}
		}
		w = disk(t, plenty)
		w.plan(appends+4, api.Behind, 0)
		w.faults(warm.Save(w.Disk, s), "append", newMeta, api.ErrIO)
		if got := len(w.bytes(newMeta)); got != 91 {
			t.Errorf("a meta of %d bytes", got)
		}
	}
}

// P18.12: what is laid down: the number, the data file, and all else as the picture says.
func TestSaved(t *testing.T) {
	d := diceOf(5)
	w := disk(t, plenty)
	s := opened(t, small())
	for n := 1; n < 9; n++ {
		d.work(s, 60)
		rows, st, meter := s.Rows(), s.State(), s.Meter()
		w.saves(s)
		w.loose(false)
		data := []byte(w.bytes(fmt.Sprintf("warm.%c", 'b'-n%2)))
		must := of(small(), st, len(rows), data)
		must.Number, must.Which = uint64(n), uint8(1-n%2)
		if got := says(t, []byte(w.bytes(theMeta))); got != must {
			t.Fatalf("%+v, not %+v", got, must)
		}
		if string(data) != string(dataOf(rows)) {
			t.Fatalf("other data are laid down")
		}
		meta, same := warm.Picture(s, n)
		w.holds(theMeta, string(meta))
		if string(same) != string(data) {
			t.Fatalf("other data than Picture's")
		}
		if !sameRows(s.Rows(), rows) || s.State() != st || s.Meter() != meter {
			t.Fatal("a Save changes the store")
		}
		if n == 1 {
			w.named(dataA, theMeta)
		} else {
			w.named(dataA, dataB, theMeta)
		}
	}
}

// P18.12: a number follows the standing meta's, whatever it is; the data file is the one that it does not name.
func TestNumbersFollow(t *testing.T) {
	s := filled(t, "a")
	for _, x := range []struct {
		number, must uint64
	}{
		{0, 1}, {1, 2}, {41, 42}, {math.MaxInt64, 1 << 63}, {math.MaxUint64 - 1, math.MaxUint64}, {math.MaxUint64, 0},
	} {
		for which := range uint8(2) {
			w := disk(t, plenty)
			w.picture(made(wide(), api.State{Now: 9, Pending: 3}, nil, func(m *saying) { m.Number, m.Which, m.Length = x.number, which, 77 })) // it stands, whatever else it says
			w.saves(s)
			m := says(t, []byte(w.bytes(theMeta)))
			if m.Number != x.must || m.Which != 1-which || m.Issued != 1 {
				t.Errorf("behind %d of %d: %+v", x.number, which, m)
			}
			w.loads(1, taken(1, 0, int(x.must)))
		}
	}
}

// P18.11: what does not stand is as if it were not there.
func TestStanding(t *testing.T) {
	s := filled(t, "a")
	meta, data := made(small(), api.State{Now: 1, Issued: 1 << 50}, nil, func(m *saying) { m.Number = 7 })
	third, _ := made(small(), api.State{Now: 1}, nil, func(m *saying) { m.Which = 2 })
	last, _ := made(small(), api.State{Now: 1}, nil, func(m *saying) { m.Which = 255 })
	turned := slices.Clone(meta)
	turned[90] ^= 1
	for i, none := range [][]byte{nil, meta[:90], append(slices.Clone(meta), 0), sealed(meta)[:83], turned, third, last, make([]byte, 91)} {
		w := disk(t, plenty)
		w.file(dataA, string(data))
		w.file(theMeta, string(none))
		w.loads(1, cold(api.ErrCorrupt))
		w.saves(s)
		m := says(t, []byte(w.bytes(theMeta)))
		if m.Number != 1 || m.Which != 0 || m.Issued != 1 {
			t.Errorf("meta %d stands: %+v", i, m)
		}
	}
	w := disk(t, plenty)
	w.picture(meta, data)
	w.saves(s)
	if m := says(t, []byte(w.bytes(theMeta))); m.Number != 8 || m.Which != 1 || m.Issued != 1<<50 {
		t.Errorf("%+v", m)
	}
}

// P18.12: what is refused first, and that nothing is begun then.
func TestSaveRefused(t *testing.T) {
	const last = math.MaxUint64 - 2<<32
	w := disk(t, plenty)
	s := filled(t, "a")
	w.fine(w.Create("x"))
	full := restored(t, small(), api.State{Now: 1, Issued: last + 1}, nil)
	w.faults(warm.Save(w.Disk, full), "save", "", api.ErrTokens)
	w.begun(1)
	brim := restored(t, small(), api.State{Now: 1, Issued: last}, nil)
	w.saves(brim)
	w.picture(made(small(), api.State{Now: 1, Issued: last + 1}, nil, nil))
	was := w.Acts()
	w.faults(warm.Save(w.Disk, s), "save", "", api.ErrTokens)
	w.begun(was)
	w.plan(1, api.Lose, 0)
	w.SyncNames()
	w.faults(warm.Save(w.Disk, full), "save", "", api.ErrDown)
	w.faults(warm.Save(w.Disk, nil), "save", "", api.ErrArg)
	w.begun(was + 1)
}

// P18.12: the first act that is refused ends a Save, and its fault is told, of whatever kind.
func TestSaveEnds(t *testing.T) {
	s := filled(t, "a")
	for kind, why := range map[int]api.Errno{api.Ahead: api.ErrIO, api.Behind: api.ErrIO, api.Tear: api.ErrIO, api.Room: api.ErrSpace, api.Lose: api.ErrDown, api.Late: api.ErrDown} {
		for n, act := range slices.Concat(laying(dataA, 1), turning) {
			w := disk(t, plenty)
			w.plan(n+1, kind, 1)
			call, name, _ := strings.Cut(act, " ")
			w.faults(warm.Save(w.Disk, s), call, name, why)
			w.begun(n + 1)
			if w.Power() != (why != api.ErrDown) {
				t.Errorf("power behind %d", kind)
			}
		}
	}
	w := disk(t, 37)
	w.faults(warm.Save(w.Disk, s), "append", dataA, api.ErrSpace)
	w = disk(t, 38+90)
	w.faults(warm.Save(w.Disk, s), "append", newMeta, api.ErrSpace)
	w = disk(t, 38+91)
	w.saves(s)
	w.faults(warm.Save(w.Disk, s), "append", dataB, api.ErrSpace)
}
