package ring_test

import (
	"fmt"
	"slices"
	"testing"

	"granary/api"
	"granary/hash"
	"granary/ring"
)

// at are the points of a ring at a place.
func at(r ring.Ring, place uint32) (all []api.Point) {
	for _, p := range r.Points() {
		if p.At == place {
			all = append(all, p)
		}
	}
	return all
}

// isAt: at this place there is this point alone.
func isAt(t *testing.T, r ring.Ring, place uint32, server string, rank int) {
	t.Helper()
	if l := at(r, place); len(l) != 1 || name(t, r, l[0].Server) != server || l[0].Rank != rank {
		t.Errorf("at %#x of %v there is %v instead of %s, rank %d", place, r.Servers(), l, server, rank)
	}
}

// P19.3: of one server the points are its own places, 64 a weight.
func TestPointsOfOne(t *testing.T) {
	for weight := 1; weight <= 8; weight++ {
		own, e := hash.Points("s", 64*weight)
		if e != api.OK {
			t.Fatal(e)
		}
		points := of(t, server("s", weight)).Points()
		if len(points) != 64*weight {
			t.Errorf("%d points of weight %d", len(points), weight)
		}
		for i, p := range points {
			if p.Server != 0 || own[p.Rank] != p.At || i > 0 && points[i-1].At >= p.At {
				t.Errorf("point %d of weight %d is %v", i, weight, p)
			}
		}
		follows(t, of(t, server("s", weight)), server("s", weight))
	}
}

// P19.3: a heavier server has the lighter one's points, and more.
func TestHeavier(t *testing.T) {
	for weight := 1; weight < 8; weight++ {
		light, heavy := of(t, server("s", weight)).Points(), of(t, server("s", weight+1)).Points()
		for _, p := range light {
			if !slices.Contains(heavy, p) {
				t.Errorf("%v of weight %d is no point of weight %d", p, weight, weight+1)
			}
		}
		for _, p := range heavy {
			if (p.Rank < 64*weight) != slices.Contains(light, p) {
				t.Errorf("%v of weight %d", p, weight+1)
			}
		}
	}
}

// P19.3: of some and of as many as may be, with all weights.
func TestPointsOfMany(t *testing.T) {
	for _, n := range []int{2, 3, 10, 100, 256} {
		var l []api.Server
		for i := range n {
			l = append(l, server(fmt.Sprintf("s%d", i), 1+i%8))
		}
		follows(t, of(t, l...), l...)
	}
	follows(t, of(t, row(256, 8)...), row(256, 8)...)
}

// P19.3: a place of two servers is the point of the lesser name, and of the other one when that is dropped.
func TestTwoServersMeet(t *testing.T) {
	const place = 0x6078F630
	for _, l := range [][]api.Server{{server("h55", 1), server("h595", 1)}, {server("h595", 1), server("h55", 1)}, {server("h595", 8), server("h55", 8)}, {server("h595", 2), server("a", 1), server("h55", 1), server("z", 1)}} {
		r := of(t, l...)
		isAt(t, r, place, "h55", 27)
		isAt(t, add(t, ring.Ring{}, l...), place, "h55", 27)
		follows(t, r, l...)
		isAt(t, drop(t, r, "h55"), place, "h595", 60)
		isAt(t, drop(t, r, "h595"), place, "h55", 27)
		isAt(t, add(t, drop(t, r, "h55"), server("h55", 1)), place, "h55", 27)
		if l := at(drop(t, r, "h55", "h595"), place); len(l) != 0 {
			t.Errorf("both are dropped, and there is %v", l)
		}
		// A key that comes to just this place is the lesser name's.
		for _, key := range []string{"h595-60", "h55-27"} {
			if got := name(t, r, owner(t, r, []byte(key))); got != "h55" {
				t.Errorf("%s is of %s", key, got)
			}
		}
	}
	if n := len(of(t, server("h55", 1), server("h595", 1)).Points()); n != 127 {
		t.Errorf("%d points instead of 127", n)
	}
}

// P19.3: a place that a server has several times is one point, with the least rank.
func TestOneServerMeetsItself(t *testing.T) {
	for _, x := range []struct {
		name        string
		weight      int
		place       uint32
		first, next int
	}{{"h20171", 8, 0x1081B8C9, 139, 358}, {"s7432", 8, 2196715439, 155, 373}, {"s7432", 6, 2196715439, 155, 373}, {"s111089", 1, 2031807499, 51, 62}} {
		own, _ := hash.Points(x.name, 64*x.weight)
		if own[x.first] != x.place || own[x.next] != x.place {
			t.Fatalf("%s has its places elsewhere", x.name)
		}
		r := of(t, server(x.name, x.weight))
		isAt(t, r, x.place, x.name, x.first)
		if n := len(r.Points()); n != 64*x.weight-1 {
			t.Errorf("%d points of %s", n, x.name)
		}
		for _, p := range r.Points() {
			if p.Rank == x.next {
				t.Errorf("%s has the point %v", x.name, p)
			}
		}
		follows(t, r, server(x.name, x.weight))
		follows(t, of(t, server("a", 1), server(x.name, x.weight), server("z", 1)), server(x.name, x.weight), server("z", 1), server("a", 1))
	}
}

// P19.3, P19.10: of two servers with the same places the greater name has no point, or only what the lesser one has not.
func TestTwins(t *testing.T) {
	for _, pair := range [][2]string{twins, other} {
		less, more := pair[0], pair[1]
		for _, x := range [][2]int{{1, 1}, {2, 1}, {8, 8}, {1, 2}, {3, 8}} {
			r := of(t, server(more, x[1]), server(less, x[0]))
			follows(t, r, server(less, x[0]), server(more, x[1]))
			hidden := x[1] <= x[0]
			for _, p := range r.Points() {
				if (p.Server == 1) != (p.Rank >= 64*x[0]) {
					t.Errorf("weights %v: %v", x, p)
				}
			}
			for i := range 100 {
				got := r.Prefer(key(i), 256)
				if hidden && !slices.Equal(got, []int{0}) || !hidden && len(got) != 2 {
					t.Errorf("weights %v: %s prefers %v", x, key(i), got)
				}
			}
			follows(t, drop(t, r, less), server(more, x[1]))
			follows(t, drop(t, r, more), server(less, x[0]))
		}
		// Added ahead by its name, it takes all the places, and gives them back.
		r := of(t, server(more, 2), server("m", 1))
		with := add(t, r, server(less, 2))
		follows(t, with, server(more, 2), server(less, 2), server("m", 1))
		follows(t, drop(t, with, less), server(more, 2), server("m", 1))
	}
}

// P19.3: where several places are shared, each has its own answer.
func TestManyMeet(t *testing.T) {
	l := []api.Server{server(twins[1], 3), server(other[0], 1), server("h595", 1), server("h20171", 8), server(twins[0], 2), server("h55", 1), server("s7432", 8), server(other[1], 2)}
	r := of(t, l...)
	follows(t, r, l...)
	for i, s := range l {
		follows(t, drop(t, r, s.Name), slices.Delete(slices.Clone(l), i, i+1)...)
	}
}
