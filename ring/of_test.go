package ring_test

import (
	"fmt"
	"math"
	"slices"
	"strings"
	"testing"

	"granary/api"
	"granary/ring"
)

// noServers are what is no server, each by itself.
func noServers() []api.Server {
	all := []api.Server{{}, server("", 1), server("", 0), server("", 9)}
	for _, w := range []int{0, -1, 9, 10, 256 + 1, 1<<32 + 1, math.MinInt, math.MaxInt} {
		all = append(all, server("x", w), server(strings.Repeat("x", 64), w))
	}
	for _, n := range []int{65, 66, 250, 251, 1 << 16} {
		all = append(all, server(strings.Repeat("x", n), 1), server(strings.Repeat("\x00", n), 8), server(strings.Repeat("x", n), 0))
	}
	return append(all, server(strings.Repeat("\u00E4", 33), 1))
}

// edges are servers at the limits of names and weights, of any bytes.
func edges() []api.Server {
	all := []api.Server{server("x", 1), server("y", 8), server(strings.Repeat("x", 64), 8), server(strings.Repeat("x", 63), 1), server(strings.Repeat("\u00E4", 32), 2)}
	for _, name := range []string{"\x00", "\x00\x00", "\xFF", "\xFF\x00", "-", "a b\r\n", "a-1", "gr\u00E4nary"} {
		all = append(all, server(name, 3))
	}
	return all
}

// refuses: an error, and beside it the empty ring.
func refuses(t *testing.T, what string, r ring.Ring, e, must api.Errno) {
	t.Helper()
	if e != must {
		t.Errorf("%.200s: %v instead of %v", what, e, must)
	}
	isEmpty(t, r)
}

// P19.1: what is no server is refused, alone and wherever it stands.
func TestNoServer(t *testing.T) {
	a := of(t, server("a", 1))
	for _, s := range noServers() {
		r, e := ring.Of(s)
		refuses(t, fmt.Sprintf("Of(%v)", s), r, e, api.ErrArg)
		for at := range 4 {
			l := slices.Insert(row(3, 1), at, s)
			r, e = ring.Of(l...)
			refuses(t, fmt.Sprintf("Of(%v)", l), r, e, api.ErrArg)
		}
		r, e = a.Add(s)
		refuses(t, fmt.Sprintf("Add(%v)", s), r, e, api.ErrArg)
		r, e = ring.Ring{}.Add(s)
		refuses(t, fmt.Sprintf("Add(%v) to the empty ring", s), r, e, api.ErrArg)
	}
	alike(t, a, of(t, server("a", 1)))
}

// P19.1: at the limits of names and weights all is well.
func TestEdges(t *testing.T) {
	for _, s := range edges() {
		follows(t, of(t, s), s)
		follows(t, add(t, ring.Ring{}, s), s)
	}
	follows(t, of(t, edges()...), edges()...)
	follows(t, add(t, ring.Ring{}, edges()...), edges()...)
}

// P19.1: ErrMany comes ahead of ErrArg, that ahead of ErrTwice.
func TestOrderOfOf(t *testing.T) {
	twice := []api.Server{server("a", 1), server("b", 1), server("a", 2)}
	for _, x := range []struct {
		servers []api.Server
		must    api.Errno
	}{
		{row(257, 1), api.ErrMany},
		{row(1000, 1), api.ErrMany},
		{append(row(256, 1), server("s0", 1)), api.ErrMany},
		{append(row(256, 1), server("x", 0)), api.ErrMany},
		{append(row(256, 1), server("", 1)), api.ErrMany},
		{make([]api.Server, 257), api.ErrMany},
		{make([]api.Server, 256), api.ErrArg},
		{append(row(255, 1), server("s0", 9)), api.ErrArg},
		{append(row(255, 1), server("s0", 1)), api.ErrTwice},
		{append(row(254, 1), server("s0", 1), server("x", 0)), api.ErrArg},
		{append(slices.Clone(twice), server("", 1)), api.ErrArg},
		{append([]api.Server{server("", 1)}, twice...), api.ErrArg},
		{twice, api.ErrTwice},
		{twice[1:], api.OK},
		{[]api.Server{server("a", 1), server("a", 1)}, api.ErrTwice},
		{[]api.Server{server("a", 1), server("A", 1), server("aa", 1), server("a\x00", 1)}, api.OK},
		{row(256, 1), api.OK},
	} {
		r, e := ring.Of(x.servers...)
		if x.must != api.OK {
			refuses(t, fmt.Sprintf("Of(%v)", x.servers), r, e, x.must)
		} else if e != api.OK || len(r.Servers()) != len(x.servers) {
			t.Errorf("Of of %d: %v, %d servers", len(x.servers), e, len(r.Servers()))
		}
	}
}

// P19.1: of Add ErrArg comes ahead of ErrTwice, that ahead of ErrMany.
func TestOrderOfAdd(t *testing.T) {
	full, room := of(t, row(256, 1)...), of(t, row(255, 1)...)
	for _, x := range []struct {
		s                api.Server
		toFull, withRoom api.Errno
	}{
		{server("x", 0), api.ErrArg, api.ErrArg},
		{server("s7", 9), api.ErrArg, api.ErrArg},
		{server("", 1), api.ErrArg, api.ErrArg},
		{server("s7", 1), api.ErrTwice, api.ErrTwice},
		{server("s7", 2), api.ErrTwice, api.ErrTwice},
		{server("s0", 1), api.ErrTwice, api.ErrTwice},
		{server("s99", 1), api.ErrTwice, api.ErrTwice},
		{server("x", 1), api.ErrMany, api.OK},
		{server("a", 8), api.ErrMany, api.OK},
	} {
		r, e := full.Add(x.s)
		refuses(t, fmt.Sprintf("Add(%v) to a full ring", x.s), r, e, x.toFull)
		r, e = room.Add(x.s)
		if x.withRoom != api.OK {
			refuses(t, fmt.Sprintf("Add(%v)", x.s), r, e, x.withRoom)
		} else if e != api.OK {
			t.Errorf("Add(%v): %v", x.s, e)
		} else {
			follows(t, r, append(row(255, 1), x.s)...)
		}
	}
	follows(t, full, row(256, 1)...)
	follows(t, room, row(255, 1)...)
}

// P19.1: only a name that the ring has is dropped, whatever else stands near it.
func TestDrop(t *testing.T) {
	l := []api.Server{server("b", 1), server("bb", 2), server("d", 1), server("b\x00", 1)}
	r := of(t, l...)
	for _, name := range []string{"", "a", "c", "e", "bbb", "B", "b\x00\x00", "d ", strings.Repeat("b", 65), strings.Repeat("b", 1<<16)} {
		less, e := r.Drop(name)
		refuses(t, fmt.Sprintf("Drop(%q)", name), less, e, api.ErrServer)
		less, e = ring.Ring{}.Drop(name)
		refuses(t, fmt.Sprintf("Drop(%q) of the empty ring", name), less, e, api.ErrServer)
	}
	for i, s := range l {
		less := drop(t, r, s.Name)
		rest := slices.Delete(slices.Clone(l), i, i+1)
		follows(t, less, rest...)
		again, e := less.Drop(s.Name)
		refuses(t, fmt.Sprintf("a second Drop(%q)", s.Name), again, e, api.ErrServer)
		follows(t, add(t, less, s), l...)
		follows(t, add(t, less, server(s.Name, 8)), append(rest, server(s.Name, 8))...)
	}
	follows(t, r, l...)
	isEmpty(t, drop(t, r, "d", "b", "bb", "b\x00"))
}

// P19.1: the ring on which Add and Drop are called stays as it was, and so do copies of it.
func TestRingsStay(t *testing.T) {
	l := []api.Server{server("c", 1), server("e", 2), server("a", 3)}
	r := of(t, l...)
	same := r
	var made []ring.Ring
	for _, s := range []api.Server{server("b", 1), server("d", 1), server("f", 8), server("A", 1)} {
		made = append(made, add(t, r, s))
	}
	for i, s := range []api.Server{server("b", 1), server("d", 1), server("f", 8), server("A", 1)} {
		follows(t, made[i], append(slices.Clone(l), s)...)
	}
	drop(t, r, "a", "c", "e")
	follows(t, r, l...)
	follows(t, same, l...)
}

// P19.1: of no servers there is the empty ring, which all calls may be made on.
func TestEmpty(t *testing.T) {
	var zero ring.Ring
	for _, r := range []ring.Ring{zero, of(t), of(t, []api.Server{}...), drop(t, of(t, server("a", 1)), "a"), drop(t, of(t, row(256, 1)[:2]...), "s1", "s0")} {
		isEmpty(t, r)
		follows(t, add(t, r, server("a", 2)), server("a", 2))
	}
}
