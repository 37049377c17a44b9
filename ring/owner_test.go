package ring_test

import (
	"fmt"
	"math"
	"slices"
	"sort"
	"testing"

	"granary/api"
	"granary/hash"
	"granary/ring"
)

// oddKeys are of any bytes, and of none. The last one's sum is 0, so that it comes to the place 0.
func oddKeys() [][]byte {
	return [][]byte{nil, {}, {0}, {255}, []byte(" "), []byte("a b\r\n"), make([]byte, 251), make([]byte, 1<<16), []byte("gr\u00E4nary"), {0xD5, 0x6B, 0xB9, 0x53, 0x42, 0x87, 0x08, 0x36}}
}

// P19.4, P19.5: of one server all keys are.
func TestOwnerOfOne(t *testing.T) {
	for _, weight := range []int{1, 8} {
		r := of(t, server("only", weight))
		keys := oddKeys()
		for i := range 100 {
			keys = append(keys, key(i))
		}
		for _, k := range keys {
			if n := owner(t, r, k); n != 0 {
				t.Errorf("Owner(%q) is %d", k, n)
			}
			for _, most := range []int{1, 5, 256, math.MaxInt} {
				if l := r.Prefer(k, most); !slices.Equal(l, []int{0}) {
					t.Errorf("Prefer(%q, %d) is %v", k, most, l)
				}
			}
		}
	}
}

// P19.4, P19.5: any bytes are a key, none too; the place 0 comes to the first point.
func TestOddKeys(t *testing.T) {
	l := row(10, 2)
	r, p := of(t, l...), plainOf(l...)
	for _, k := range oddKeys() {
		must := p.prefer(k)
		if got := r.Prefer(k, 256); !slices.Equal(got, must) || owner(t, r, k) != must[0] {
			t.Errorf("%q: %v instead of %v", k, got, must)
		}
	}
	zero := oddKeys()[9]
	if hash.Sum(zero) != 0 || owner(t, r, zero) != r.Points()[0].Server {
		t.Errorf("the place 0 is of %d", owner(t, r, zero))
	}
	if owner(t, r, nil) != owner(t, r, []byte{}) {
		t.Error("nil and empty keys have unlike owners")
	}
}

// P19.4: a key that comes to just a point's place is that point's.
func TestOnThePoint(t *testing.T) {
	r := of(t, row(12, 1)...)
	for _, p := range r.Points() {
		k := fmt.Appendf(nil, "%s-%d", name(t, r, p.Server), p.Rank)
		if hash.Point(hash.Sum(k)) != p.At {
			t.Fatalf("%s does not come to %v", k, p)
		}
		if got := owner(t, r, k); got != p.Server {
			t.Errorf("Owner(%s) is %d, its point %v", k, got, p)
		}
	}
}

// P19.4: keys one ahead of a point, on it, one behind it, and behind the last one.
func TestAroundPoints(t *testing.T) {
	r := of(t, row(256, 8)...)
	points := r.Points()
	ahead, on, behind, round := 0, 0, 0, 0
	for i := range 400000 {
		k := key(i)
		place := spot(string(k))
		next := sort.Search(len(points), func(i int) bool { return points[i].At >= place })
		must := points[next%len(points)]
		if next == len(points) {
			round++
		} else if must.At == place {
			on++
		} else if must.At == place+1 {
			ahead++
		}
		if next > 0 && points[next-1].At == place-1 {
			behind++
		}
		if got := owner(t, r, k); got != must.Server {
			t.Fatalf("Owner(%s), at %#x, is %d, its point %v", k, place, got, must)
		}
	}
	if ahead == 0 || on == 0 || behind == 0 || round == 0 {
		t.Errorf("keys ahead of a point: %d, on it: %d, behind it: %d, behind all: %d", ahead, on, behind, round)
	}
}

// P19.4: behind the last point the first one is next.
func TestRound(t *testing.T) {
	round := 0
	for n := 1; n < 40; n++ {
		l := row(n, 1)
		r := of(t, l...)
		points := r.Points()
		for i := range 500 {
			if spot(string(key(i))) <= points[len(points)-1].At {
				continue
			}
			round++
			if got := owner(t, r, key(i)); got != points[0].Server {
				t.Errorf("Owner(%s) of %d is %d, the first point %v", key(i), n, got, points[0])
			}
			if got, must := r.Prefer(key(i), 256), plainOf(l...).prefer(key(i)); !slices.Equal(got, must) {
				t.Errorf("Prefer(%s) of %d is %v instead of %v", key(i), n, got, must)
			}
		}
	}
	if round == 0 {
		t.Error("no key came behind the last point")
	}
}

// P19.5: each server once, in the order of its first point from the key's on; Owner's first.
func TestPrefer(t *testing.T) {
	for _, l := range [][]api.Server{row(2, 1), row(3, 8), row(10, 1), row(60, 1), {server("light", 1), server("heavy", 8), server("middle", 4)}} {
		r, p := of(t, l...), plainOf(l...)
		for i := range 100 {
			must := p.prefer(key(i))
			if len(must) != len(l) {
				t.Fatalf("%d of %d servers have points", len(must), len(l))
			}
			for most := 1; most <= len(l)+2; most++ {
				got := r.Prefer(key(i), most)
				if !slices.Equal(got, must[:min(most, len(l))]) {
					t.Errorf("Prefer(%s, %d) is %v, of %v", key(i), most, got, must)
				}
			}
			if owner(t, r, key(i)) != must[0] {
				t.Errorf("Owner(%s) is %d, preferred are %v", key(i), owner(t, r, key(i)), must)
			}
		}
	}
}

// P19.5: at most none, if most is below 1; all, however much it is.
func TestMost(t *testing.T) {
	full := of(t, row(256, 1)...)
	for _, r := range []ring.Ring{{}, of(t, row(1, 1)...), of(t, row(9, 1)...), full} {
		for _, most := range []int{0, -1, -256, math.MinInt} {
			if l := r.Prefer(key(1), most); len(l) != 0 {
				t.Errorf("Prefer(k, %d) is %v", most, l)
			}
		}
		for _, most := range []int{256, 257, 1 << 32, math.MaxInt} {
			if l := r.Prefer(key(1), most); len(l) != len(r.Servers()) {
				t.Errorf("Prefer(k, %d) is %v", most, l)
			}
		}
	}
	if l := full.Prefer(key(1), 255); len(l) != 255 {
		t.Errorf("Prefer(k, 255) names %d", len(l))
	}
}

// P19.10: a shorter list begins a longer one; the whole names each server that has a point, and no other.
func TestPreferBegins(t *testing.T) {
	for _, l := range [][]api.Server{row(1, 1), row(12, 2), row(256, 1), {server(twins[0], 1), server(twins[1], 1), server("m", 1), server(other[1], 2), server(other[0], 1)}} {
		r := of(t, l...)
		var have []int
		for _, p := range r.Points() {
			if !slices.Contains(have, p.Server) {
				have = append(have, p.Server)
			}
		}
		slices.Sort(have)
		for i := range 10 {
			all := r.Prefer(key(i), api.MaxServers)
			for most := range len(all) + 3 {
				if got := r.Prefer(key(i), most); !slices.Equal(got, all[:min(most, len(all))]) {
					t.Fatalf("Prefer(%s, %d) does not begin %v", key(i), most, all)
				}
			}
			slices.Sort(all)
			if !slices.Equal(all, have) {
				t.Errorf("Prefer(%s) names %v, where %v have points", key(i), all, have)
			}
		}
	}
}
