package ring_test

import (
	"fmt"
	"slices"
	"testing"

	"granary/api"
	"granary/ring"
)

// ownerName is the name of a key's owner, of an empty ring none.
func ownerName(r ring.Ring, key []byte) string {
	n, e := r.Owner(key)
	if e != api.OK {
		return ""
	}
	s, _ := r.Name(n)
	return s
}

// moved is what Moved tells, which must agree with the owners.
func moved(t *testing.T, a, b ring.Ring, key []byte) (from, to string, yes bool) {
	t.Helper()
	from, to, yes = ring.Moved(a, b, key)
	if from != ownerName(a, key) || to != ownerName(b, key) || yes != (from != to) {
		t.Fatalf("Moved(%q): %q, %q, %v, owners are %q, %q", key, from, to, yes, ownerName(a, key), ownerName(b, key))
	}
	return from, to, yes
}

// P19.7: of empty rings there is no name; between names, not numbers, it is told whether they are unlike.
func TestMoved(t *testing.T) {
	one, two := of(t, server("m", 1)), of(t, server("n", 1))
	for _, k := range append(oddKeys(), key(1), key(2)) {
		for _, x := range []struct {
			a, b     ring.Ring
			from, to string
			yes      bool
		}{
			{ring.Ring{}, ring.Ring{}, "", "", false},
			{ring.Ring{}, one, "", "m", true},
			{one, ring.Ring{}, "m", "", true},
			{one, one, "m", "m", false},
			{one, two, "m", "n", true},
			{one, of(t, server("m", 8)), "m", "m", false},
		} {
			if from, to, yes := moved(t, x.a, x.b, k); from != x.from || to != x.to || yes != x.yes {
				t.Errorf("Moved(%q): %q, %q, %v", k, from, to, yes)
			}
		}
	}
	// With a server ahead of all others each number is another one, and yet most keys stay.
	r := of(t, row(9, 1)...)
	more := add(t, r, server("a", 1))
	stay := 0
	for i := range 200 {
		if from, to, yes := moved(t, r, more, key(i)); !yes && from == to {
			stay++
		}
	}
	if stay < 100 || stay == 200 {
		t.Errorf("%d of 200 keys stay", stay)
	}
}

// worlds are rings for which moves are tried: some of their servers share places.
func worlds() [][]api.Server {
	mixed := append(row(5, 3), edges()...)
	return [][]api.Server{
		row(1, 1), row(2, 1), row(10, 1), row(40, 2), mixed,
		{server("h55", 1), server("h595", 1)},
		{server("h55", 8), server("h595", 8), server("h20171", 8)},
		{server(twins[0], 1), server(twins[1], 1)},
		{server(twins[0], 1), server(twins[1], 3), server("m", 1), server(other[0], 2), server(other[1], 2)},
	}
}

// metKeys are keys that come just to the places of servers, and others.
func metKeys(servers []api.Server) (all [][]byte) {
	for i := range 300 {
		all = append(all, key(i))
	}
	for _, s := range servers {
		for rank := range 64 * s.Weight {
			all = append(all, fmt.Appendf(nil, "%s-%d", s.Name, rank))
		}
	}
	return all
}

// P19.9: with a server added only keys that go to it move.
func TestAddMoves(t *testing.T) {
	for _, l := range worlds() {
		for i, s := range l {
			r := of(t, slices.Delete(slices.Clone(l), i, i+1)...)
			more := add(t, r, s)
			for _, k := range metKeys(l) {
				if from, to, yes := moved(t, r, more, k); yes && to != s.Name || from == s.Name {
					t.Fatalf("with %v added to %v %q goes from %q to %q", s, r.Servers(), k, from, to)
				}
			}
		}
	}
}

// P19.9: with a server taken away just its own keys move: to none, if it was the last one.
func TestDropMoves(t *testing.T) {
	for _, l := range worlds() {
		r := of(t, l...)
		for _, s := range l {
			less := drop(t, r, s.Name)
			for _, k := range metKeys(l) {
				from, to, yes := moved(t, r, less, k)
				if yes != (from == s.Name) || to == s.Name || (to == "") != (len(l) == 1) {
					t.Fatalf("with %v dropped from %v %q goes from %q to %q", s, l, k, from, to)
				}
			}
		}
	}
}

// shares: is an own place of this server one of another server?
func shares(l []api.Server, s api.Server) bool {
	own := map[uint32]bool{}
	for _, p := range plainOf(s).points {
		own[p.At] = true
	}
	for _, x := range l {
		if x == s {
			continue
		}
		for _, p := range plainOf(x).points {
			if own[p.At] {
				return true
			}
		}
	}
	return false
}

// P19.9: each key of a server that shares no place goes to the next one of its list, and lists lose just that name.
func TestDropPrefers(t *testing.T) {
	apart := 0
	for _, l := range worlds() {
		r := of(t, l...)
		for _, s := range l {
			if shares(l, s) {
				continue
			}
			apart++
			less := drop(t, r, s.Name)
			for i := range 200 {
				all := names(t, r, key(i), 256)
				if from, to, yes := moved(t, r, less, key(i)); yes && len(all) > 1 && (from != all[0] || to != all[1]) {
					t.Fatalf("%s goes from %s to %s, preferred are %q", key(i), from, to, all)
				}
				rest := slices.DeleteFunc(all, func(name string) bool { return name == s.Name })
				if got := names(t, less, key(i), len(l)); !slices.Equal(got, rest) {
					t.Fatalf("without %s %s prefers %q instead of %q", s.Name, key(i), got, rest)
				}
			}
		}
	}
	if apart < 20 {
		t.Errorf("%d servers shared no place", apart)
	}
}

// P19.9: one that shares a place may hide another one's point; its keys go there, when it is dropped.
func TestDropUncovers(t *testing.T) {
	r := of(t, server("h55", 1), server("h595", 1), server("m", 1))
	less := drop(t, r, "h55")
	if from, to, yes := moved(t, r, less, []byte("h595-60")); from != "h55" || to != "h595" || !yes {
		t.Errorf("from %s to %s, %v", from, to, yes)
	}
	pair := of(t, server(twins[0], 1), server(twins[1], 1), server("m", 1))
	less = drop(t, pair, twins[0])
	for i := range 100 {
		if from, to, yes := moved(t, pair, less, key(i)); yes != (from == twins[0]) || yes && to != twins[1] {
			t.Errorf("%s goes from %s to %s", key(i), from, to)
		}
	}
}

// A server of more weight has more keys: points, not servers, are what keys come to.
func TestWeights(t *testing.T) {
	r := of(t, server("light", 1), server("heavy", 8))
	has := map[string]int{}
	for i := range 4000 {
		has[ownerName(r, key(i))]++
	}
	if has["light"]+has["heavy"] != 4000 || has["heavy"] < 5*has["light"] || has["light"] < 100 {
		t.Errorf("keys: %v", has)
	}
}
