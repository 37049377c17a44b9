package warm_test

import (
	"math"
	"strings"
	"testing"

	"granary/api"
	"granary/warm"
)

// P18.3: the bounds of a disk, and what a new one tells.
func TestNewDisk(t *testing.T) {
	for _, space := range []int{-1, math.MinInt, 1<<40 + 1, math.MaxInt} {
		d, err := warm.NewDisk(space)
		if d != nil || whyOf(t, err) != api.ErrArg {
			t.Errorf("NewDisk(%d): %v", space, err)
		}
	}
	for _, space := range []int{0, 1, 1 << 40} {
		w := disk(t, space)
		w.named()
		w.loose(false)
		w.begun(0)
		if !w.Power() {
			t.Error("no power")
		}
	}
}

// P18.2: a name has 1 to 32 bytes, of any kind.
func TestNames(t *testing.T) {
	w := disk(t, 100)
	good := []string{"\x00", "\n", " ", "A", "a", "a ", "aa", strings.Repeat("z", 32), "é", "\xff", "\xff\x00"}
	for _, name := range good {
		w.fine(w.Create(name), w.Append(name, []byte(name)), w.Sync(name))
	}
	w.named(good...) // they rise by their bytes
	for _, name := range good {
		w.holds(name, name)
		w.fine(w.Rename(name, "~"), w.Rename("~", name), w.Remove(name))
	}
	w.named()
	for _, name := range []string{"", strings.Repeat("z", 33), strings.Repeat("é", 17), strings.Repeat("z", 5000)} {
		_, err := w.Read(name)
		for _, err := range []error{err, w.Create(name), w.Append(name, nil), w.Sync(name), w.Remove(name), w.Rename(name, "a"), w.Rename("a", name), w.Rename(name, name)} {
			w.is(err, api.ErrName)
		}
	}
	w.named()
}

// P18.4: what Append does where there is too little room, and what room is.
func TestRoom(t *testing.T) {
	w := disk(t, 10)
	w.fine(w.Create("a"), w.Create("b"))
	w.fine(w.Append("a", []byte("1234")), w.Append("b", []byte("56")), w.Append("a", nil))
	w.is(w.Append("b", []byte("78901")), api.ErrSpace)
	w.holds("b", "567890")
	w.is(w.Append("b", []byte("x")), api.ErrSpace)
	w.is(w.Append("a", []byte("xy")), api.ErrSpace)
	w.fine(w.Append("a", nil), w.Append("a", []byte{}))
	w.holds("a", "1234")
	w.holds("b", "567890")
	w.fine(w.Remove("a"), w.Append("b", []byte("abcd"))) // what has no name takes no room
	w.is(w.Append("b", []byte("e")), api.ErrSpace)
	w.fine(w.Create("c"), w.Rename("c", "b"), w.Append("b", []byte("0123456789")))
	w.is(w.Append("b", []byte("e")), api.ErrSpace)
	w.holds("b", "0123456789")
}

// P18.4: room is not below 0, where a restart brings files back.
func TestRoomBelowNothing(t *testing.T) {
	w := disk(t, 4)
	w.file("a", "1234")
	w.fine(w.Remove("a"), w.Create("b"), w.SyncNames())
	w.file("c", "567")
	w.fine(w.Remove("c"), w.Append("b", []byte("89ab")))
	w.Restart(api.Cut{Bytes: []int{9, 9, 9}})
	w.named("b", "c")
	w.holds("b", "89ab")
	w.holds("c", "567")
	w.is(w.Append("b", []byte("x")), api.ErrSpace)
	w.fine(w.Append("b", nil))
	w.fine(w.Remove("c"))
	w.is(w.Append("b", []byte("x")), api.ErrSpace)
	w.holds("b", "89ab")
}

// P18.4: Rename over a file, onto itself, and of nothing.
func TestRename(t *testing.T) {
	w := disk(t, 100)
	w.file("a", "A")
	w.file("b", "B")
	w.fine(w.Rename("a", "a"))
	w.loose(false)
	w.named("a", "b")
	w.is(w.Rename("c", "c"), api.ErrMissing)
	w.is(w.Rename("c", "a"), api.ErrMissing)
	w.loose(false)
	w.fine(w.Rename("a", "b"))
	w.named("b")
	w.holds("b", "A")
	w.loose(true)
	w.fine(w.SyncNames())
	w.loose(false)
	w.Restart(api.Cut{})
	w.named("b")
	w.holds("b", "A")
}

// P18.4: acts are numbered whatever comes of them, without power too; other calls are none.
func TestActs(t *testing.T) {
	w := disk(t, 1)
	w.is(w.Create(""), api.ErrName)
	w.is(w.Remove("a"), api.ErrMissing)
	w.fine(w.Create("a"), w.Rename("a", "a"), w.SyncNames())
	w.is(w.Append("a", []byte("xy")), api.ErrSpace)
	w.begun(6)
	w.Read("a")
	w.Names()
	w.Loose()
	w.Power()
	w.Plan()
	w.Restart(api.Cut{})
	w.begun(6)
	w.plan(1, api.Ahead, 0)
	w.is(w.Sync("a"), api.ErrIO)
	w.plan(1, api.Lose, 0)
	w.is(w.Sync("a"), api.ErrDown)
	for range 3 {
		w.is(w.Create("b"), api.ErrDown)
	}
	w.begun(11)
	w.Restart(api.Cut{})
	w.begun(11)
	w.fine(w.Create("b"))
	w.begun(12)
}

// P18.7: what is loose: a change, or bytes of a file that has a name.
func TestLoose(t *testing.T) {
	w := disk(t, 100)
	w.fine(w.Create("a"))
	w.loose(true)
	w.fine(w.SyncNames())
	w.loose(false)
	w.fine(w.Append("a", nil))
	w.loose(false)
	w.fine(w.Append("a", []byte("x")))
	w.loose(true)
	w.fine(w.SyncNames())
	w.loose(true)
	w.fine(w.Sync("a"))
	w.loose(false)
	w.fine(w.Append("a", []byte("y")), w.Remove("a"), w.SyncNames()) // a file out of reach has loose bytes
	w.loose(false)
	w.fine(w.Create("b"), w.Remove("b"))
	w.loose(true)
	w.Restart(api.Cut{})
	w.loose(false)
}

// P18.6: without power.
func TestNoPower(t *testing.T) {
	w := disk(t, 100)
	w.file("a", "safe")
	w.fine(w.Append("a", []byte("loose")))
	w.plan(1, api.Lose, 0)
	w.is(w.Sync("a"), api.ErrDown)
	if w.Power() {
		t.Fatal("power")
	}
	w.named()
	w.loose(true)
	_, err := w.Read("a")
	w.is(err, api.ErrDown)
	_, err = w.Read("")
	w.is(err, api.ErrDown)
	w.Plan(api.Fault{Step: w.Acts() + 1, Kind: api.Behind})
	w.is(w.Create("b"), api.ErrDown)
	w.is(w.Rename("", ""), api.ErrDown)
	w.Restart(api.Cut{Bytes: []int{5}}) // nothing was lost till now
	w.named("a")
	w.holds("a", "safeloose")
	w.loose(false)
	if !w.Power() {
		t.Fatal("no power")
	}
}

// P18.8: which bytes of a file are kept.
func TestRestartOfBytes(t *testing.T) {
	for _, x := range []struct {
		bytes []int
		must  string
	}{
		{nil, "ab"}, {[]int{9}, "ab"}, {[]int{9, 0}, "ab"}, {[]int{0, 1}, "abc"}, {[]int{0, 2, 9}, "abcd"}, {[]int{0, 3}, "abcde"},
		{[]int{0, 4}, "abcde"}, {[]int{0, math.MaxInt}, "abcde"}, {[]int{0, -1}, "ab"}, {[]int{0, math.MinInt}, "ab"},
	} {
		w := disk(t, 100)
		w.fine(w.Create("zero"), w.Create("a"), w.Append("a", []byte("ab")), w.Sync("a"), w.SyncNames(), w.Append("a", []byte("cde")))
		w.Restart(api.Cut{Bytes: x.bytes})
		w.holds("a", x.must)
		w.loose(false)
		w.fine(w.Append("a", []byte("!")))
		w.Restart(api.Cut{})
		w.holds("a", x.must) // what was kept is safe
	}
}

// P18.8: how many of the changes are kept.
func TestRestartOfNames(t *testing.T) {
	for _, x := range []struct {
		names int
		must  []string
	}{
		{math.MinInt, []string{"a", "b"}}, {-1, []string{"a", "b"}}, {0, []string{"a", "b"}}, {1, []string{"b", "c"}}, {2, []string{"c"}},
		{3, []string{"b", "c"}}, {4, []string{"b"}}, {5, []string{"b"}}, {math.MaxInt, []string{"b"}},
	} {
		w := disk(t, 100)
		w.file("a", "A")
		w.file("b", "B")
		w.fine(w.Rename("a", "c"), w.Remove("b"), w.Rename("c", "c"))
		w.is(w.Create("c"), api.ErrExists)
		w.fine(w.Create("b"), w.Append("b", []byte("new")), w.Rename("c", "b"))
		w.Restart(api.Cut{Names: x.names})
		w.named(x.must...)
		for _, name := range x.must {
			must := map[string]string{"a": "A", "b": "B", "c": "A"}[name]
			if name == "b" && x.names == 3 {
				must = ""
			} else if name == "b" && x.names > 3 {
				must = "A"
			}
			w.holds(name, must)
		}
		w.loose(false)
		w.Restart(api.Cut{Names: 9})
		w.named(x.must...) // no change was left
	}
}

// P18.2: files are numbered in the order in which they were created, for the disk's whole life.
func TestNumbers(t *testing.T) {
	w := disk(t, 1000)
	w.fine(w.Create("a"), w.Remove("a"))                // 0
	w.is(w.Create(""), api.ErrName)                     // none
	w.fine(w.Create("a"), w.SyncNames())                // 1
	w.is(w.Create("a"), api.ErrExists)                  // none
	w.plan(1, api.Ahead, 0)                             // none
	w.is(w.Create("b"), api.ErrIO)                      //
	w.plan(1, api.Behind, 0)                            //
	w.is(w.Create("b"), api.ErrIO)                      // 2
	w.Restart(api.Cut{})                                // b is gone
	w.fine(w.Create("b"), w.Create("c"), w.SyncNames()) // 3, 4
	w.fine(w.Rename("b", "d"), w.SyncNames())           // its number stays
	for _, name := range []string{"a", "c", "d"} {
		w.fine(w.Append(name, []byte("0123456789")))
	}
	w.Restart(api.Cut{Bytes: []int{9, 1, 8, 3, 4}})
	w.holds("a", "0")
	w.holds("c", "0123")
	w.holds("d", "012")
}

// P18.8: whether there was power or not, it comes back, and nothing is planned.
func TestRestartForgets(t *testing.T) {
	for _, kind := range []int{api.Lose, api.Late, 0} {
		w := disk(t, 100)
		w.file("a", "A")
		w.Plan(api.Fault{Step: 5, Kind: kind}, api.Fault{Step: 6, Kind: api.Ahead})
		w.Remove("a")
		w.Restart(api.Cut{})
		w.named("a")
		w.fine(w.Sync("a"))
		if !w.Power() {
			t.Error("no power")
		}
	}
}
