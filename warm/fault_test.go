package warm_test

import (
	"errors"
	"strings"
	"testing"

	"granary/api"
	"granary/warm"
)

// P18.1: a fault's words.
func TestWords(t *testing.T) {
	for _, x := range []struct {
		f    warm.Fault
		must string
	}{
		{warm.Fault{Call: "create", Name: "a", Why: api.ErrExists}, "create a: exists"},
		{warm.Fault{Call: "syncnames", Why: api.ErrDown}, "syncnames: no power"},
		{warm.Fault{Call: "save", Why: api.ErrTokens}, "save: out of tokens"},
		{warm.Fault{Call: "load", Why: api.ErrSmall}, "load: too few pages"},
		{warm.Fault{Call: "read", Name: " \xff", Why: api.ErrMissing}, "read  \xff: missing"},
		{warm.Fault{Call: "newdisk", Why: api.ErrArg}, "newdisk: bad argument"},
		{warm.Fault{Call: "append", Name: "a", Why: api.OK}, "append a: ok"},
		{warm.Fault{Call: "append", Name: "a", Why: errors.New("other")}, "append a: other"},
		{warm.Fault{Call: "append", Name: "a"}, "append a: "},
		{warm.Fault{Call: "append"}, "append: "},
		{warm.Fault{Name: "a"}, " a: "},
		{warm.Fault{}, ": "},
		{warm.Fault{Call: "save", Why: &warm.Fault{Call: "sync", Name: "b", Why: api.ErrIO}}, "save: sync b: input or output"},
	} {
		if got := x.f.Error(); got != x.must {
			t.Errorf("%q, not %q", got, x.must)
		}
	}
}

// P18.1: a fault wraps its number.
func TestUnwrap(t *testing.T) {
	var err error = &warm.Fault{Call: "save", Why: &warm.Fault{Call: "sync", Name: "b", Why: api.ErrIO}}
	var f *warm.Fault
	var why api.Errno
	if !errors.Is(err, api.ErrIO) || errors.Is(err, api.ErrDown) || !errors.As(err, &f) || f != err || !errors.As(err, &why) || why != api.ErrIO {
		t.Errorf("%v wraps %v", err, why)
	}
	if got := f.Unwrap(); got != f.Why {
		t.Errorf("Unwrap: %v", got)
	}
	if got := (&warm.Fault{Call: "save"}).Unwrap(); got != nil {
		t.Errorf("Unwrap: %v", got)
	}
}

// R1: a fault may be empty, or nil.
func TestEmptyFault(t *testing.T) {
	var none *warm.Fault
	if none.Error() != new(warm.Fault).Error() || none.Unwrap() != nil || new(warm.Fault).Unwrap() != nil {
		t.Error("a fault that is nil is no empty one")
	}
	deep := &warm.Fault{Call: "c", Why: api.ErrIO}
	for range 1000 {
		deep = &warm.Fault{Call: "c", Why: deep}
	}
	if got := deep.Error(); got != strings.Repeat("c: ", 1001)+"input or output" || !errors.Is(deep, api.ErrIO) {
		t.Errorf("%.100q", got)
	}
}

// The section 'Errors': which call, which name, which number.
func TestFaultsOfCalls(t *testing.T) {
	w := disk(t, 4)
	long := strings.Repeat("n", 33)
	_, err := warm.NewDisk(-1)
	w.faults(err, "newdisk", "", api.ErrArg)
	w.faults(w.Create(""), "create", "", api.ErrName)
	w.faults(w.Create(long), "create", long, api.ErrName)
	w.fine(w.Create("a"), w.Create("b"))
	w.faults(w.Create("a"), "create", "a", api.ErrExists)
	w.faults(w.Append(long, nil), "append", long, api.ErrName)
	w.faults(w.Append("x", nil), "append", "x", api.ErrMissing)
	w.faults(w.Append("a", []byte("12345")), "append", "a", api.ErrSpace)
	w.faults(w.Sync(long), "sync", long, api.ErrName)
	w.faults(w.Sync("x"), "sync", "x", api.ErrMissing)
	w.faults(w.Rename(long, "a"), "rename", long, api.ErrName)
	w.faults(w.Rename("x", long), "rename", "x", api.ErrName)
	w.faults(w.Rename("a", ""), "rename", "a", api.ErrName)
	w.faults(w.Rename("", ""), "rename", "", api.ErrName)
	w.faults(w.Rename("x", "a"), "rename", "x", api.ErrMissing)
	w.faults(w.Rename("x", "x"), "rename", "x", api.ErrMissing)
	w.faults(w.Remove(""), "remove", "", api.ErrName)
	w.faults(w.Remove("x"), "remove", "x", api.ErrMissing)
	_, err = w.Read("")
	w.faults(err, "read", "", api.ErrName)
	_, err = w.Read(long)
	w.faults(err, "read", long, api.ErrName)
	_, err = w.Read("x")
	w.faults(err, "read", "x", api.ErrMissing)
	w.begun(18)
	w.plan(1, api.Ahead, 0)
	w.faults(w.SyncNames(), "syncnames", "", api.ErrIO)
	s := filled(t, "a")
	w.faults(warm.Save(nil, s), "save", "", api.ErrArg)
	w.faults(warm.Save(w.Disk, nil), "save", "", api.ErrArg)
	w.faults(warm.Save(nil, nil), "save", "", api.ErrArg)
	w.refusesLoad(small(), 0, "load", "", api.ErrArg)
	w.plan(1, api.Lose, 0)
	w.faults(w.SyncNames(), "syncnames", "", api.ErrDown)
	for call, err := range map[string]error{"create": w.Create(""), "append": w.Append("", nil), "sync": w.Sync(""), "rename": w.Rename("", "a"), "remove": w.Remove(""), "syncnames": w.SyncNames(), "save": warm.Save(w.Disk, s)} {
		w.faults(err, call, "", api.ErrDown)
	}
	for call, err := range map[string]error{"create": w.Create(long), "append": w.Append(long, nil), "sync": w.Sync(long), "rename": w.Rename(long, ""), "remove": w.Remove(long)} {
		w.faults(err, call, long, api.ErrDown)
	}
	_, err = w.Read("")
	w.faults(err, "read", "", api.ErrDown)
	w.refusesLoad(small(), 1, "load", "", api.ErrDown)
}
