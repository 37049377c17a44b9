package ring_test

import (
	"bytes"
	"fmt"
	"slices"
	"testing"

	"granary/api"
	"granary/ring"
)

// decodes: the bytes are a ring of these servers.
func decodes(t *testing.T, raw []byte, servers ...api.Server) {
	t.Helper()
	r, e := ring.Decode(raw, servers)
	if e != api.OK {
		t.Fatalf("Decode, servers %v: %v", servers, e)
	}
	alike(t, r, of(t, servers...))
}

// unformed: the bytes are no ring of these servers.
func unformed(t *testing.T, what string, raw []byte, servers ...api.Server) {
	t.Helper()
	r, e := ring.Decode(raw, servers)
	refuses(t, "Decode of "+what, r, e, api.ErrForm)
}

// P19.6: eight bytes a point, the highest ones first.
func TestEncode(t *testing.T) {
	r := of(t, server("b", 1), server("a", 8))
	raw, points := r.Encode(), r.Points()
	if len(raw) != 8*len(points) {
		t.Fatalf("%d bytes of %d points", len(raw), len(points))
	}
	high := 0
	for i, p := range points {
		b := raw[8*i : 8*i+8]
		at := uint32(b[0])<<24 | uint32(b[1])<<16 | uint32(b[2])<<8 | uint32(b[3])
		if at != p.At || int(b[4])<<8|int(b[5]) != p.Server || int(b[6])<<8|int(b[7]) != p.Rank {
			t.Errorf("%v is laid down as %x", p, b)
		}
		if p.Rank > 255 {
			high++
		}
	}
	if high == 0 {
		t.Error("no rank was above 255")
	}
	if n := len(of(t, server("s", 1)).Encode()); n != 512 {
		t.Errorf("%d bytes of one server", n)
	}
}

// P19.6: what was laid down is read back, whatever the order of the servers.
func TestDecode(t *testing.T) {
	decodes(t, nil)
	decodes(t, []byte{})
	for _, l := range [][]api.Server{row(1, 1), row(3, 8), edges(), row(256, 1), {server(twins[0], 1), server(twins[1], 1)}, {server("h595", 1), server("h55", 1)}} {
		raw := of(t, l...).Encode()
		decodes(t, raw, l...)
		turned := slices.Clone(l)
		slices.Reverse(turned)
		decodes(t, raw, turned...)
	}
}

// P19.6: Of's error comes ahead of ErrForm.
func TestDecodeRefuses(t *testing.T) {
	good := of(t, row(2, 1)...).Encode()
	for _, raw := range [][]byte{nil, good, good[1:], {1, 2, 3}} {
		for _, x := range []struct {
			servers []api.Server
			must    api.Errno
		}{
			{append(row(256, 1), server("s0", 0)), api.ErrMany},
			{row(257, 1), api.ErrMany},
			{append(row(2, 1), server("s0", 0)), api.ErrArg},
			{append(row(2, 1), server("", 1)), api.ErrArg},
			{append(row(2, 1), server("s0", 1)), api.ErrTwice},
		} {
			r, e := ring.Decode(raw, x.servers)
			refuses(t, fmt.Sprintf("Decode, servers %v", x.servers), r, e, x.must)
		}
	}
}

// P19.6: any bit turned, any piece taken away or laid behind: that is no ring of these servers.
func TestDecodeUnformed(t *testing.T) {
	l := row(2, 1)
	raw := of(t, l...).Encode()
	for i := range 8 * len(raw) {
		bent := slices.Clone(raw)
		bent[i/8] ^= 1 << (i % 8)
		unformed(t, fmt.Sprintf("bit %d turned", i), bent, l...)
	}
	for n := range len(raw) {
		unformed(t, fmt.Sprintf("%d bytes", n), raw[:n], l...)
	}
	unformed(t, "a byte more", append(slices.Clone(raw), 0), l...)
	unformed(t, "a point more", append(slices.Clone(raw), raw[len(raw)-8:]...), l...)
	unformed(t, "a point fewer ahead", raw[8:], l...)
	unformed(t, "all twice", append(slices.Clone(raw), raw...), l...)
	unformed(t, "two points in another order", append(append(slices.Clone(raw[8:16]), raw[:8]...), raw[16:]...), l...)
	unformed(t, "other bytes", bytes.Repeat([]byte{7}, len(raw)), l...)
	unformed(t, "one byte", []byte{0})
	unformed(t, "a ring", raw)
	unformed(t, "no bytes", nil, l...)
}

// P19.6: the bytes of other servers, or other weights, are no ring of these.
func TestDecodeOthers(t *testing.T) {
	raw := of(t, server("a", 1), server("b", 2)).Encode()
	for _, l := range [][]api.Server{
		nil,
		{server("a", 1)},
		{server("b", 2)},
		{server("a", 2), server("b", 1)},
		{server("a", 1), server("b", 1)},
		{server("a", 1), server("b", 3)},
		{server("a", 1), server("c", 2)},
		{server("a", 1), server("b", 2), server("c", 1)},
	} {
		unformed(t, fmt.Sprintf("others than %v", l), raw, l...)
	}
	// What tells the same points is the same bytes, though the servers are others: the places of a twin, with the same number.
	decodes(t, of(t, server(twins[0], 1)).Encode(), server(twins[1], 1))
}
