package ring_test

import (
	"bytes"
	"slices"
	"testing"

	"granary/api"
	"granary/ring"
)

// R2: what is handed in is not changed, its spare room included, and not kept.
func TestHandedIn(t *testing.T) {
	list := append(row(6, 2), server("spare", 1), server("spare", 1))
	slices.Reverse(list[:6])
	was := slices.Clone(list)
	r := of(t, list[:6]...)
	more := add(t, r, server("guest", 1))
	raw := append(r.Encode(), "spare"...)
	wasRaw := slices.Clone(raw)
	d, e := ring.Decode(raw[:len(raw)-5], list[:6])
	if e != api.OK {
		t.Fatal(e)
	}
	k := append(key(3), "spare"...)
	wasKey := slices.Clone(k)
	r.Owner(k[:2])
	r.Prefer(k[:2], 9)
	ring.Moved(r, more, k[:2])
	if !slices.Equal(list, was) || !bytes.Equal(raw, wasRaw) || !bytes.Equal(k, wasKey) {
		t.Fatalf("what was handed in is changed: %v, %q", list, k)
	}
	for i := range list {
		list[i] = server("#", 8)
	}
	clear(raw)
	clear(k)
	follows(t, r, was[:6]...)
	follows(t, d, was[:6]...)
	follows(t, more, append(slices.Clone(was[:6]), server("guest", 1))...)
}

// R2: a refusal leaves what was handed in as it was, too.
func TestRefusedHandedIn(t *testing.T) {
	list := []api.Server{server("z", 1), server("a", 1), server("z", 2), server("b", 1)}
	was := slices.Clone(list)
	ring.Of(list...)
	ring.Decode(nil, list)
	ring.Decode([]byte{1}, list[:2])
	if !slices.Equal(list, was) {
		t.Errorf("what was handed in is changed: %v", list)
	}
}

// wipe changes all that a ring has told, the spare room too.
func wipe(r ring.Ring) {
	servers, points, raw, prefer := r.Servers(), r.Points(), r.Encode(), r.Prefer(key(1), 256)
	_ = append(servers, server("#", 1))
	servers, points, raw, prefer = servers[:cap(servers)], points[:cap(points)], raw[:cap(raw)], prefer[:cap(prefer)]
	for i := range servers {
		servers[i] = server("#", 9)
	}
	for i := range points {
		points[i] = api.Point{At: 7, Server: 99, Rank: 99}
	}
	for i := range raw {
		raw[i] = '#'
	}
	for i := range prefer {
		prefer[i] = 99
	}
}

// R2: what is answered is the caller's own: nothing that is done with it is seen again.
func TestAnswersAreTheCallers(t *testing.T) {
	for _, l := range worlds() {
		r := of(t, l...)
		same, less, more := r, drop(t, r, l[0].Name), add(t, r, server("guest", 1))
		for _, x := range []ring.Ring{r, same, less, more} {
			wipe(x)
		}
		follows(t, r, l...)
		follows(t, same, l...)
		follows(t, less, l[1:]...)
		follows(t, more, append(slices.Clone(l), server("guest", 1))...)
		wipe(drop(t, more, "guest"))
		follows(t, r, l...)
	}
}

// R2: what was answered stays as it is, whatever comes behind it.
func TestAnswersStay(t *testing.T) {
	l := row(6, 2)
	r, p := of(t, l...), plainOf(l...)
	servers, points, raw, prefer := r.Servers(), r.Points(), r.Encode(), r.Prefer(key(1), 256)
	wipe(r)
	wipe(add(t, r, server("a", 8)))
	wipe(drop(t, r, "s3", "s0"))
	r.Prefer(key(2), 3)
	if !slices.Equal(servers, p.servers) || !slices.Equal(points, p.points) || !bytes.Equal(raw, p.raw()) || !slices.Equal(prefer, p.prefer(key(1))) {
		t.Error("an answer has changed")
	}
}

// R3: a refusal changes nothing.
func TestRefusalsChangeNothing(t *testing.T) {
	l := row(5, 1)
	r := of(t, l...)
	r.Add(server("s1", 2))
	r.Add(server("x", 9))
	r.Drop("x")
	ring.Decode([]byte{1}, l)
	ring.Of(append(l, l...)...)
	follows(t, r, l...)
}
