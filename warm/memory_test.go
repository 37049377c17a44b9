package warm_test

import (
	"slices"
	"testing"

	"granary/api"
	"granary/warm"
)

// spare is a row of bytes with room behind it, which is filled.
func spare(text string) []byte {
	return append([]byte(text), "!!!!!!!!!!!!!!!!"...)[:len(text)]
}

// wipe changes all that can be reached of a list.
func wipe[T any](list []T, by T) {
	list = list[:cap(list)]
	for i := range list {
		list[i] = by
	}
}

// R2: what Append is handed is not changed, its spare room neither, and not kept.
func TestAppended(t *testing.T) {
	w := disk(t, 100)
	w.fine(w.Create("a"), w.Create("b"))
	p := spare("abc")
	w.fine(w.Append("a", p), w.Append("b", p[1:2]))
	if got := string(p[:cap(p)]); got[:6] != "abc!!!" {
		t.Errorf("what is handed in is %q", got)
	}
	wipe(p, '#')
	w.holds("a", "abc")
	w.holds("b", "b")
	p = spare("def")
	w.plan(1, api.Tear, 1)
	w.is(w.Append("a", p), api.ErrIO)
	w.fine(w.Append("a", []byte("-")))
	if got := string(p[:cap(p)]); got[:6] != "def!!!" {
		t.Errorf("what is handed in is %q", got)
	}
	wipe(p, '#')
	w.holds("a", "abcd-")
}

// R2: what Read and Names tell is new memory.
func TestTold(t *testing.T) {
	w := disk(t, 100)
	w.file("a", "abc")
	w.file("b", "def")
	for range 3 {
		first, _ := w.Read("a")
		second, _ := w.Read("a")
		wipe(first, '#')
		if string(second) != "abc" {
			t.Errorf("two answers share memory: %q", second)
		}
		wipe(second, '#')
		w.holds("a", "abc")
		names := w.Names()
		wipe(names, "#")
		w.named("a", "b")
	}
	kept, _ := w.Read("a")
	w.fine(w.Append("a", []byte("xyz")))
	wipe(kept, '#')
	w.holds("a", "abcxyz")
	w.Restart(api.Cut{})
	w.fine(w.Append("a", []byte("uvw")))
	w.holds("a", "abcuvw")
	w.holds("b", "def")
}

// R2: what Plan and Restart are handed is not changed and not kept.
func TestPlanned(t *testing.T) {
	w := disk(t, 100)
	plan := append([]api.Fault{{Step: 1, Kind: api.Ahead}, {Step: 2, Kind: api.Room}}, api.Fault{Step: 3, Kind: api.Lose})[:2]
	was := slices.Clone(plan[:3])
	w.Plan(plan...)
	wipe(plan, api.Fault{Step: 2, Kind: api.Lose})
	w.is(w.Create("a"), api.ErrIO)
	w.is(w.Create("a"), api.ErrSpace)
	w.fine(w.Create("a"), w.SyncNames(), w.Append("a", []byte("abc")))
	copy(plan[:3], was)
	w.Plan(plan...)
	if !slices.Equal(plan[:3], was) {
		t.Errorf("what is handed in is %v", plan[:3])
	}
	cut := api.Cut{Bytes: append([]int{2}, 9, 9)[:1], Names: 3}
	w.Restart(cut)
	if !slices.Equal(cut.Bytes[:3], []int{2, 9, 9}) {
		t.Errorf("what is handed in is %v", cut.Bytes[:3])
	}
	wipe(cut.Bytes, 0)
	w.holds("a", "ab")
}

// R2: a picture is new memory, and Check changes nothing.
func TestPictureMemory(t *testing.T) {
	s := filled(t, "a", "b")
	meta, data := warm.Picture(s, 1)
	keptMeta, keptData := string(meta), string(data)
	m, b := warm.Picture(s, 1)
	wipe(m, '#')
	if string(data) != keptData || string(b) != keptData {
		t.Error("meta and data share memory")
	}
	wipe(b, '#')
	if string(meta) != keptMeta || string(data) != keptData || keysOf(s) != "a b" {
		t.Error("two pictures share memory")
	}
	roomyMeta, roomyData := spare(keptMeta), spare(keptData)
	for range 2 {
		if got := warm.Check(roomyMeta, roomyData, small()); got != taken(2, 0, 1) {
			t.Errorf("%+v", got)
		}
	}
	if string(roomyMeta[:91+4]) != keptMeta+"!!!!" || string(roomyData[:len(keptData)+4]) != keptData+"!!!!" {
		t.Error("Check changes what it is handed")
	}
}

// R2: a store that was loaded shares nothing with the disk, nor one that was saved.
func TestApart(t *testing.T) {
	w := disk(t, plenty)
	s := filled(t, "a", "b")
	w.saves(s)
	sets(s, "y", "a", "c")
	first := w.loads(1, taken(2, 0, 1))
	sets(first, "zzz", "a", "b", "d")
	second := w.loads(1, taken(2, 0, 1))
	if keysOf(second) != "a b" || keysOf(s) != "a b c" || keysOf(first) != "a b d" {
		t.Errorf("%q, %q, %q", keysOf(second), keysOf(s), keysOf(first))
	}
	w.fine(w.Remove(dataA), w.Remove(theMeta), w.SyncNames())
	if e, ok := second.Find("b"); !ok || string(e.Value) != "x" {
		t.Errorf("b: %+v", e)
	}
}

// R2: two faults are two, and each stays as it was told.
func TestFaultsApart(t *testing.T) {
	w := disk(t, 10)
	first, second := w.Sync("x").(*warm.Fault), w.Sync("x").(*warm.Fault)
	*first = warm.Fault{Call: "#"}
	w.faults(second, "sync", "x", api.ErrMissing)
	w.faults(w.Sync("x"), "sync", "x", api.ErrMissing)
}
