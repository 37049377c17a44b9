package warm_test

import (
	"math"
	"testing"

	"granary/api"
)

// P18.5: each kind, on an act that would be done.
func TestKinds(t *testing.T) {
	for _, x := range []struct {
		kind        int
		must        api.Errno
		done, power bool
	}{
		{0, api.OK, true, true}, {7, api.OK, true, true}, {-1, api.OK, true, true}, {math.MaxInt, api.OK, true, true},
		{api.Ahead, api.ErrIO, false, true}, {api.Room, api.ErrSpace, false, true}, {api.Tear, api.ErrIO, false, true},
		{api.Lose, api.ErrDown, false, false}, {api.Behind, api.ErrIO, true, true}, {api.Late, api.ErrDown, true, false},
	} {
		for act, after := range map[string]string{"create": "a b n", "rename": "b n", "remove": "b", "syncnames": "a b", "sync": "a b"} {
			w := disk(t, 100)
			w.file("b", "")
			w.fine(w.Create("a"), w.Append("a", []byte("xy")))
			w.plan(1, x.kind, 1)
			do := map[string]func() error{"create": func() error { return w.Create("n") }, "rename": func() error { return w.Rename("a", "n") }, "remove": func() error { return w.Remove("a") }, "syncnames": w.SyncNames, "sync": func() error { return w.Sync("a") }}[act]
			w.is(do(), x.must)
			if w.Power() != x.power {
				t.Errorf("%s with %d: power %v", act, x.kind, w.Power())
			}
			keep := api.Cut{Names: 9}
			if act == "syncnames" {
				keep.Names = 0
			}
			if act != "sync" {
				keep.Bytes = []int{9, 9}
			}
			w.Restart(keep)
			got := ""
			for _, name := range w.Names() {
				got += " " + name
			}
			must := " " + after
			if !x.done && act != "syncnames" {
				must = " a b"
			} else if !x.done {
				must = " b"
			}
			if got != must {
				t.Errorf("%s with %d: %q, not %q", act, x.kind, got, must)
			}
			if act == "sync" && (w.bytes("a") == "xy") != x.done {
				t.Errorf("sync with %d: %q", x.kind, w.bytes("a"))
			}
		}
	}
}

// P18.5: each kind, on an act that is refused by itself.
func TestKindsOfRefused(t *testing.T) {
	for kind, must := range map[int][2]api.Errno{
		0: {api.ErrName, api.ErrMissing}, 9: {api.ErrName, api.ErrMissing}, api.Behind: {api.ErrName, api.ErrMissing},
		api.Ahead: {api.ErrIO, api.ErrIO}, api.Room: {api.ErrSpace, api.ErrSpace}, api.Lose: {api.ErrDown, api.ErrDown}, api.Late: {api.ErrDown, api.ErrDown},
	} {
		for i, name := range []string{"", "x"} {
			for act := range 5 {
				w := disk(t, 100)
				w.plan(1, kind, 0)
				err := []func() error{func() error { return w.Sync(name) }, func() error { return w.Remove(name) }, func() error { return w.Rename(name, "y") }, func() error { return w.Append(name, []byte("p")) }, func() error { return w.Rename(name, name) }}[act]()
				w.is(err, must[i])
				if w.Power() != (kind != api.Lose && kind != api.Late) {
					t.Errorf("power behind %d: %v", kind, w.Power())
				}
				w.Restart(api.Cut{Names: 9})
				w.named()
			}
		}
	}
}

// P18.5: an Append is torn.
func TestTear(t *testing.T) {
	for _, x := range []struct {
		part, space int
		must        string
		why         api.Errno
	}{
		{0, 100, "-", api.ErrIO}, {-1, 100, "-", api.ErrIO}, {math.MinInt, 100, "-", api.ErrIO}, {1, 100, "-a", api.ErrIO}, {2, 100, "-ab", api.ErrIO},
		{3, 100, "-abc", api.ErrIO}, {4, 100, "-abc", api.ErrIO}, {math.MaxInt, 100, "-abc", api.ErrIO},
		{2, 3, "-ab", api.ErrIO}, {2, 2, "-a", api.ErrSpace}, {9, 3, "-ab", api.ErrSpace}, {1, 1, "-", api.ErrSpace}, {0, 1, "-", api.ErrIO},
	} {
		w := disk(t, x.space)
		w.fine(w.Create("a"), w.Append("a", []byte("-")))
		w.plan(1, api.Tear, x.part)
		w.is(w.Append("a", []byte("abc")), x.why)
		w.holds("a", x.must)
		w.begun(3)
	}
	w := disk(t, 100)
	w.plan(1, api.Tear, 1)
	w.is(w.Append("a", []byte("abc")), api.ErrMissing)
	w.plan(1, api.Tear, 1)
	w.is(w.Append("", []byte("abc")), api.ErrName)
	w.plan(1, api.Tear, 1)
	w.is(w.Sync(""), api.ErrIO) // of any other act: not done
	w.plan(1, api.Tear, 1)
	w.is(w.Rename("", ""), api.ErrIO)
}

// P18.5: an Append with each of the other kinds.
func TestKindsOfAppend(t *testing.T) {
	for _, x := range []struct {
		kind, space int
		must        string
		why         api.Errno
	}{
		{api.Ahead, 9, "", api.ErrIO}, {api.Room, 9, "", api.ErrSpace}, {api.Lose, 9, "", api.ErrDown}, {api.Behind, 9, "abc", api.ErrIO}, {api.Late, 9, "abc", api.ErrDown},
		{api.Ahead, 2, "", api.ErrIO}, {api.Room, 2, "", api.ErrSpace}, {api.Behind, 2, "ab", api.ErrSpace}, {api.Late, 2, "ab", api.ErrDown}, {0, 2, "ab", api.ErrSpace}, {99, 3, "abc", api.OK},
	} {
		w := disk(t, x.space)
		w.fine(w.Create("a"), w.SyncNames())
		w.plan(1, x.kind, 1)
		w.is(w.Append("a", []byte("abc")), x.why)
		w.Restart(api.Cut{Bytes: []int{9}})
		w.holds("a", x.must)
	}
}

// P18.5: the first of several, of any kind, bears; those of other acts do not; a plan takes the place of another.
func TestPlans(t *testing.T) {
	w := disk(t, 100)
	w.Plan(api.Fault{Step: 1, Kind: api.Behind}, api.Fault{Step: 1, Kind: api.Ahead})
	w.is(w.Create("a"), api.ErrIO)
	w.is(w.Create("a"), api.ErrExists)
	w.Plan(api.Fault{Step: 3, Kind: 44}, api.Fault{Step: 3, Kind: api.Lose})
	w.fine(w.Sync("a"))
	w.Plan(api.Fault{Step: 3, Kind: api.Ahead}, api.Fault{Step: 5, Kind: api.Room}, api.Fault{Step: -4, Kind: api.Lose}, api.Fault{Kind: api.Lose}, api.Fault{Step: 6, Kind: api.Ahead})
	w.fine(w.Sync("a"))
	w.is(w.Sync("a"), api.ErrSpace)
	w.Plan(api.Fault{Step: 7, Kind: api.Ahead})
	w.fine(w.Sync("a"))
	w.Plan()
	w.fine(w.Sync("a"))
	w.Plan(api.Fault{Step: 9, Kind: api.Lose}, api.Fault{Step: 10, Kind: api.Behind}, api.Fault{Step: 11, Kind: api.Ahead})
	w.fine(w.Sync("a"))
	w.is(w.Sync("a"), api.ErrDown)
	w.is(w.Sync("a"), api.ErrDown)
	w.is(w.Sync("a"), api.ErrDown)
	w.begun(11)
}
