package ring_test

import (
	"math"
	"slices"
	"strings"
	"testing"

	"granary/api"
)

// P19.2: names rise by their bytes as numbers; what begins another one comes ahead of it.
func TestServersRise(t *testing.T) {
	var rising []api.Server
	for i, name := range []string{"\x00", "\x00\x00", "\x00\x01", "\x01", "0", "10", "2", "A", "Z", "a", "a\x00", "a ", "aA", "aa", "ab", "b", "z", "\x7F", "\x80", "\xC3\xA4", "\xFE\xFF", "\xFF", "\xFF\x00", strings.Repeat("\xFF", 63), strings.Repeat("\xFF", 64)} {
		rising = append(rising, server(name, 1+i%8))
	}
	falling := slices.Clone(rising)
	slices.Reverse(falling)
	turned := append(slices.Clone(rising[11:]), rising[:11]...)
	for _, l := range [][]api.Server{rising, falling, turned} {
		r := of(t, l...)
		if got := r.Servers(); !slices.Equal(got, rising) {
			t.Errorf("servers are %v", got)
		}
		for n, s := range rising {
			if got := name(t, r, n); got != s.Name {
				t.Errorf("server %d is %q instead of %q", n, got, s.Name)
			}
		}
	}
}

// P19.2: outside of the list there is no name.
func TestNoName(t *testing.T) {
	for _, n := range []int{0, 1, 2, 255, 256} {
		r := of(t, row(n, 1)...)
		for _, server := range []int{math.MinInt, -256, -1, n, n + 1, n + 256, 1 << 32, math.MaxInt} {
			if s, ok := r.Name(server); s != "" || ok {
				t.Errorf("Name(%d) of a ring of %d: %q, %v", server, n, s, ok)
			}
		}
		if n > 0 {
			name(t, r, 0)
			name(t, r, n-1)
		}
	}
}

// P19.2: behind an Add or a Drop a server may have another number; Owner and Points tell the new one.
func TestNumbersMove(t *testing.T) {
	r := of(t, server("b", 1), server("a", 2))
	more := add(t, r, server("aa", 1))
	for n, must := range []string{"a", "aa", "b"} {
		if got := name(t, more, n); got != must {
			t.Errorf("server %d is %q instead of %q", n, got, must)
		}
	}
	less := drop(t, more, "a")
	for n, must := range []string{"aa", "b"} {
		if got := name(t, less, n); got != must {
			t.Errorf("server %d is %q instead of %q", n, got, must)
		}
	}
	for i := range 200 {
		before, after := name(t, r, owner(t, r, key(i))), name(t, more, owner(t, more, key(i)))
		if before != after && after != "aa" {
			t.Errorf("%s goes from %s to %s", key(i), before, after)
		}
	}
}
