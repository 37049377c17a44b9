package ring_test

import (
	"bytes"
	"slices"
	"testing"

	"granary/api"
	"granary/ring"
)

// P19.8: the chapter's run of four ways to one ring.
func TestRunSame(t *testing.T) {
	a, b, c := server("a", 1), server("b", 2), server("c", 3)
	must := of(t, a, b).Encode()
	for i, r := range []ring.Ring{of(t, b, a), add(t, of(t, a), b), drop(t, add(t, of(t, a, b), c), "c")} {
		if !bytes.Equal(r.Encode(), must) {
			t.Errorf("way %d leads to another ring", i)
		}
	}
}

// P19.1: the chapter's runs of refusals.
func TestRunRefusals(t *testing.T) {
	a := server("a", 1)
	many := row(257, 1)
	many[100].Weight = 0
	r, e := ring.Of(many...)
	refuses(t, "Of of 257", r, e, api.ErrMany)
	r, e = ring.Of(a, a)
	refuses(t, "Of(a, a)", r, e, api.ErrTwice)
	r, e = of(t, a).Add(a)
	refuses(t, "Of(a).Add(a)", r, e, api.ErrTwice)
	r, e = of(t, a).Drop("b")
	refuses(t, "Of(a).Drop(b)", r, e, api.ErrServer)
}

// P19.6: the chapter's runs of Decode.
func TestRunDecode(t *testing.T) {
	l := row(3, 1)
	raw := of(t, l...).Encode()
	turned := slices.Clone(raw)
	turned[len(turned)-1] ^= 1
	unformed(t, "one rank turned", turned, l...)
	unformed(t, "one byte fewer", raw[:len(raw)-1], l...)
	unformed(t, "other servers", raw, row(4, 1)...)
	decodes(t, raw, l...)
}

// P19.2: the first of the chapter's examples.
func TestExampleServers(t *testing.T) {
	r := of(t, server("b", 1), server("a", 2))
	if got := r.Servers(); !slices.Equal(got, []api.Server{server("a", 2), server("b", 1)}) {
		t.Errorf("servers are %v", got)
	}
	if got := add(t, r, server("aa", 1)).Servers(); !slices.Equal(got, []api.Server{server("a", 2), server("aa", 1), server("b", 1)}) {
		t.Errorf("servers are %v", got)
	}
}

// P19.9: the third of the chapter's examples.
func TestExampleMoves(t *testing.T) {
	r := of(t, row(10, 1)...)
	for _, s := range row(10, 1) {
		less, mine := drop(t, r, s.Name), 0
		for i := range 100 {
			from, to, yes := ring.Moved(r, less, key(i))
			if yes != (from == s.Name) || to == s.Name {
				t.Errorf("with %s dropped %s goes from %s to %s", s.Name, key(i), from, to)
			}
			if yes {
				mine++
			}
		}
		if mine == 0 || mine > 50 {
			t.Errorf("%d keys are of %s", mine, s.Name)
		}
	}
}
