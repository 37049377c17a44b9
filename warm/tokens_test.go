package warm_test

import (
	"math"
	"testing"

	"granary/api"
	"granary/store"
	"granary/warm"
)

const leap = 1 << 32

// spent is a store as it is when it has issued so many tokens more.
func spent(t *testing.T, s *store.Store, n uint64) *store.Store {
	t.Helper()
	st := s.State()
	st.Issued += n
	return restored(t, s.Config(), st, s.Rows())
}

// P18.18: stores that have issued as many tokens as they may: those of the next start are above.
func TestTokensAbove(t *testing.T) {
	w := disk(t, plenty)
	s := filled(t, "a", "b")
	w.saves(s)
	s = spent(t, s, leap-1) // since its Save
	for range 5 {
		next := w.loads(1, taken(2, 0, 1))
		if got := tokenOf(t, next, "c"); got <= s.Issued() {
			t.Fatalf("token %d, behind %d", got, s.Issued())
		}
		s = spent(t, next, leap-2) // with the one above leap - 1 since its Load
	}
}

// P18.12 and P18.18: a Save of a store that has issued little does not take the tokens back that others have.
func TestTokensStay(t *testing.T) {
	w := disk(t, plenty)
	rich := restored(t, small(), api.State{Now: 1, Issued: 77 * leap}, nil)
	poor := filled(t, "a")
	w.saves(rich)
	w.saves(poor)
	m := says(t, []byte(w.bytes(theMeta)))
	if m.Issued != 77*leap || m.Items != 1 {
		t.Errorf("%+v", m)
	}
	s := w.loads(1, taken(1, 0, 2))
	if got := tokenOf(t, s, "b"); got != 78*leap+1 {
		t.Errorf("token %d", got)
	}
	w.saves(poor) // the leap of the start stays, too
	if m := says(t, []byte(w.bytes(theMeta))); m.Issued != 78*leap {
		t.Errorf("%+v", m)
	}
	w.saves(s)
	if m := says(t, []byte(w.bytes(theMeta))); m.Issued != 78*leap+1 {
		t.Errorf("%+v", m)
	}
}

// P18.18: a cold start with another Config gives no tokens back either, once it is saved.
func TestTokensOfAnotherConfig(t *testing.T) {
	w := disk(t, plenty)
	w.saves(restored(t, small(), api.State{Now: 1, Issued: 5 * leap}, nil))
	s := w.loadsOf(wide(), 1, cold(api.ErrArg))
	sets(s, "x", "a")
	w.saves(s)
	if got := tokenOf(t, w.loadsOf(wide(), 1, taken(1, 0, 2)), "b"); got != 6*leap+1 {
		t.Errorf("token %d", got)
	}
}

// P18.12 and P18.14: tokens run out: the last Save, the last warm start, and what comes behind them.
func TestTokensRunOut(t *testing.T) {
	const last = math.MaxUint64 - 2*leap
	w := disk(t, plenty)
	s := restored(t, small(), api.State{Now: 1, Issued: last}, []api.Row{row("a", last, "x", 0)})
	w.saves(s)
	s = w.loads(1, taken(1, 0, 1))
	if s.Issued() != last+leap {
		t.Errorf("issued %d", s.Issued())
	}
	if m := says(t, []byte(w.bytes(theMeta))); m.Issued != last+leap {
		t.Errorf("%+v", m)
	}
	was := w.Acts()
	w.loads(1, cold(api.ErrTokens))
	w.faults(warm.Save(w.Disk, s), "save", "", api.ErrTokens)
	w.faults(warm.Save(w.Disk, filled(t, "a")), "save", "", api.ErrTokens)
	w.begun(was)
	if got := tokenOf(t, s, "b"); got != last+leap+1 {
		t.Errorf("token %d", got)
	}
}

// P18.12: what is told of tokens counts the standing meta's alone: one that does not stand says nothing.
func TestTokensOfNoMeta(t *testing.T) {
	w := disk(t, plenty)
	meta, _ := made(small(), api.State{Now: 1, Issued: math.MaxUint64}, nil, nil)
	meta[0] ^= 1
	w.file(theMeta, string(meta))
	w.saves(filled(t, "a"))
	w.loads(1, taken(1, 0, 1))
}
