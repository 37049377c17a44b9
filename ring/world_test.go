package ring_test

import (
	"bytes"
	"fmt"
	"hash/fnv"
	"slices"
	"strings"
	"testing"

	"granary/api"
	"granary/ring"
)

// Two pairs of names whose sums are the same, the lesser name first: all own places of the one are places of the other.
var (
	twins = [2]string{"8yn0iYCKYHlIj4-BwPqk", "GReLUrM4wMqfg9yzV3KQ"}
	other = [2]string{"LtHf1prlU1bCeYZEdqWf", "gMPflVXtwGDXbIhP73TX"}
)

func server(name string, weight int) api.Server {
	return api.Server{Name: name, Weight: weight}
}

// row is n servers of one weight: s0, s1 ..
func row(n, weight int) (all []api.Server) {
	for i := range n {
		all = append(all, server(fmt.Sprintf("s%d", i), weight))
	}
	return all
}

// key is the i-th of the keys that most tests ask for.
func key(i int) []byte {
	return fmt.Appendf(nil, "k%d", i)
}

// of must give a ring.
func of(t *testing.T, servers ...api.Server) ring.Ring {
	t.Helper()
	r, e := ring.Of(servers...)
	if e != api.OK {
		t.Fatalf("Of(%.200q): %v", fmt.Sprint(servers), e)
	}
	return r
}

// add must give a ring.
func add(t *testing.T, r ring.Ring, servers ...api.Server) ring.Ring {
	t.Helper()
	for _, s := range servers {
		more, e := r.Add(s)
		if e != api.OK {
			t.Fatalf("Add(%v): %v", s, e)
		}
		r = more
	}
	return r
}

// drop must give a ring.
func drop(t *testing.T, r ring.Ring, names ...string) ring.Ring {
	t.Helper()
	for _, name := range names {
		less, e := r.Drop(name)
		if e != api.OK {
			t.Fatalf("Drop(%q): %v", name, e)
		}
		r = less
	}
	return r
}

// owner must be told.
func owner(t *testing.T, r ring.Ring, key []byte) int {
	t.Helper()
	n, e := r.Owner(key)
	if e != api.OK {
		t.Fatalf("Owner(%q): %v", key, e)
	}
	return n
}

// name must be told.
func name(t *testing.T, r ring.Ring, server int) string {
	t.Helper()
	s, ok := r.Name(server)
	if !ok {
		t.Fatalf("there is no server %d", server)
	}
	return s
}

// names are those of a preference list.
func names(t *testing.T, r ring.Ring, key []byte, most int) (all []string) {
	t.Helper()
	for _, n := range r.Prefer(key, most) {
		all = append(all, name(t, r, n))
	}
	return all
}

// isEmpty: all that the empty ring tells.
func isEmpty(t *testing.T, r ring.Ring) {
	t.Helper()
	for _, k := range [][]byte{nil, {}, key(1), {0}, {255, 255}} {
		if n, e := r.Owner(k); n != 0 || e != api.ErrServer {
			t.Errorf("Owner(%q) of the empty ring: %d, %v", k, n, e)
		}
		for _, most := range []int{-1, 0, 1, 9, 256, 1 << 62} {
			if l := r.Prefer(k, most); len(l) != 0 {
				t.Errorf("Prefer(%q, %d) of the empty ring: %v", k, most, l)
			}
		}
		if a, b, moved := ring.Moved(r, ring.Ring{}, k); a != "" || b != "" || moved {
			t.Errorf("Moved of empty rings: %q, %q, %v", a, b, moved)
		}
	}
	for _, n := range []int{-1, 0, 1} {
		if s, ok := r.Name(n); s != "" || ok {
			t.Errorf("Name(%d) of the empty ring: %q, %v", n, s, ok)
		}
	}
	if s, p, raw := r.Servers(), r.Points(), r.Encode(); len(s) != 0 || len(p) != 0 || len(raw) != 0 {
		t.Errorf("the empty ring tells %v, %v, %v", s, p, raw)
	}
}

// alike: do two rings tell the same, all that they can?
func alike(t *testing.T, a, b ring.Ring) {
	t.Helper()
	if x, y := a.Servers(), b.Servers(); !slices.Equal(x, y) {
		t.Fatalf("servers are %v, and %v", x, y)
	}
	if x, y := a.Points(), b.Points(); !slices.Equal(x, y) {
		t.Fatalf("points of %v are %v, and %v", a.Servers(), x, y)
	}
	if !bytes.Equal(a.Encode(), b.Encode()) {
		t.Fatalf("two rings of %v are laid down unlike", a.Servers())
	}
	for n := -1; n <= len(a.Servers()); n++ {
		x, xOK := a.Name(n)
		if y, yOK := b.Name(n); x != y || xOK != yOK {
			t.Fatalf("Name(%d) is %q, %v, and %q, %v", n, x, xOK, y, yOK)
		}
	}
	for i := range 50 {
		x, xe := a.Owner(key(i))
		if y, ye := b.Owner(key(i)); x != y || xe != ye {
			t.Fatalf("Owner(%s) is %d, %v, and %d, %v", key(i), x, xe, y, ye)
		}
		for _, most := range []int{1, 2, 256} {
			if x, y := a.Prefer(key(i), most), b.Prefer(key(i), most); !slices.Equal(x, y) {
				t.Fatalf("Prefer(%s, %d) is %v, and %v", key(i), most, x, y)
			}
		}
	}
}

// spot is a text's place on the circle, said anew.
func spot(text string) uint32 {
	f := fnv.New64a()
	f.Write([]byte(text))
	h := f.Sum64()
	h = (h ^ h>>30) * 0xBF58476D1CE4E5B9
	h = (h ^ h>>27) * 0x94D049BB133111EB
	return uint32((h ^ h>>31) >> 32)
}

// plain is a ring said anew: who comes first, by name and rank, has the place.
type plain struct {
	servers []api.Server
	points  []api.Point
}

func plainOf(servers ...api.Server) plain {
	p := plain{servers: slices.Clone(servers)}
	slices.SortFunc(p.servers, func(a, b api.Server) int { return strings.Compare(a.Name, b.Name) })
	taken := map[uint32]bool{}
	for number, s := range p.servers {
		for rank := range 64 * s.Weight {
			at := spot(fmt.Sprintf("%s-%d", s.Name, rank))
			if !taken[at] {
				taken[at] = true
				p.points = append(p.points, api.Point{At: at, Server: number, Rank: rank})
			}
		}
	}
	slices.SortFunc(p.points, func(a, b api.Point) int { return int(a.At) - int(b.At) })
	return p
}

// from is the points in the order in which a key meets them.
func (p plain) from(key []byte) []api.Point {
	at := spot(string(key))
	for i, x := range p.points {
		if x.At >= at {
			return append(slices.Clone(p.points[i:]), p.points[:i]...)
		}
	}
	return p.points
}

// prefer is the servers of these points, each once.
func (p plain) prefer(key []byte) (all []int) {
	for _, x := range p.from(key) {
		if !slices.Contains(all, x.Server) {
			all = append(all, x.Server)
		}
	}
	return all
}

// raw is what Encode must tell.
func (p plain) raw() (raw []byte) {
	for _, x := range p.points {
		raw = append(raw, byte(x.At>>24), byte(x.At>>16), byte(x.At>>8), byte(x.At), byte(x.Server>>8), byte(x.Server), byte(x.Rank>>8), byte(x.Rank))
	}
	return raw
}

// follows: is a ring all that the plain one of the same servers is?
func follows(t *testing.T, r ring.Ring, servers ...api.Server) {
	t.Helper()
	p := plainOf(servers...)
	if got := r.Servers(); !slices.Equal(got, p.servers) {
		t.Fatalf("servers are %v instead of %v", got, p.servers)
	}
	if got := r.Points(); !slices.Equal(got, p.points) {
		t.Fatalf("points of %v are %v instead of %v", p.servers, got, p.points)
	}
	if got := r.Encode(); !bytes.Equal(got, p.raw()) {
		t.Fatalf("%v is laid down as %x", p.servers, got)
	}
	for i := range 20 {
		must := p.prefer(key(i))
		if got := r.Prefer(key(i), api.MaxServers); !slices.Equal(got, must) {
			t.Fatalf("Prefer(%s) of %v is %v instead of %v", key(i), p.servers, got, must)
		}
		if n, e := r.Owner(key(i)); len(must) > 0 && (n != must[0] || e != api.OK) || len(must) == 0 && (n != 0 || e != api.ErrServer) {
			t.Fatalf("Owner(%s) of %v: %d, %v, where %v is preferred", key(i), p.servers, n, e, must)
		}
	}
}
