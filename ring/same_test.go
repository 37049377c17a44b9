package ring_test

import (
	"fmt"
	"math/rand/v2"
	"slices"
	"testing"

	"granary/api"
	"granary/ring"
)

// P19.8: however the servers were added, the ring is the same.
func TestAnyOrder(t *testing.T) {
	dice := rand.New(rand.NewPCG(19, 8))
	for _, l := range worlds() {
		must := of(t, l...)
		for range 5 {
			dice.Shuffle(len(l), func(i, j int) { l[i], l[j] = l[j], l[i] })
			alike(t, of(t, l...), must)
			alike(t, add(t, ring.Ring{}, l...), must)
			half := len(l) / 2
			alike(t, add(t, of(t, l[:half]...), l[half:]...), must)
		}
	}
}

// P19.8: what was dropped since leaves nothing behind.
func TestDroppedLeavesNothing(t *testing.T) {
	for _, l := range worlds() {
		must := of(t, l...)
		guests := []api.Server{server("guest", 8), server("a", 1), server("\xFF\xFF", 2)}
		r := drop(t, add(t, must, guests...), "a", "guest", "\xFF\xFF")
		alike(t, r, must)
		for _, s := range l {
			r = add(t, drop(t, r, s.Name), s)
			alike(t, r, must)
			// The same name with another weight in between.
			w := 1 + s.Weight%8
			r = add(t, drop(t, add(t, drop(t, r, s.Name), server(s.Name, w)), s.Name), s)
			alike(t, r, must)
		}
	}
}

// P19.8: the full ring, added one by one and laid at once.
func TestFullOneByOne(t *testing.T) {
	l := row(256, 1)
	slices.Reverse(l)
	alike(t, add(t, ring.Ring{}, l...), of(t, row(256, 1)...))
}

// P19.1 to P19.8: long rows of adds and drops, followed by the plain ring.
func TestRandomRows(t *testing.T) {
	pool := append(edges(), server(twins[0], 1), server(twins[1], 2), server(other[0], 3), server(other[1], 3), server("h55", 1), server("h595", 1), server("h20171", 8))
	pool = append(pool, row(10, 1)...)
	for seed := range 20 {
		dice := rand.New(rand.NewPCG(19, uint64(seed)))
		var r ring.Ring
		var has []api.Server
		for range 40 {
			s := pool[dice.IntN(len(pool))]
			at := slices.IndexFunc(has, func(x api.Server) bool { return x.Name == s.Name })
			var next ring.Ring
			var e, must api.Errno
			if dice.IntN(5) < 3 {
				s.Weight = dice.IntN(10)
				next, e = r.Add(s)
				if s.Weight < 1 || s.Weight > 8 {
					must = api.ErrArg
				} else if at >= 0 {
					must = api.ErrTwice
				} else {
					has = append(has, s)
				}
			} else {
				next, e = r.Drop(s.Name)
				if at < 0 {
					must = api.ErrServer
				} else {
					has = slices.Delete(has, at, at+1)
				}
			}
			if must != api.OK {
				refuses(t, fmt.Sprintf("%v with %v", s, has), next, e, must)
				continue
			}
			if e != api.OK {
				t.Fatalf("%v with %v: %v", s, has, e)
			}
			r = next
			follows(t, r, has...)
		}
	}
}
