package arena_test

import (
	"bytes"
	"math"
	"math/rand"
	"testing"

	"granary/api"
	"granary/arena"
)

// The runs of the chapter that speak of bytes.
func TestByteRuns(t *testing.T) {
	a := made(t, 4096, 2)
	if e := a.Write(4095, []byte("ab")); e != api.ErrHandle {
		t.Error("Write over a page's end:", e)
	}
	if e := a.Write(4096, []byte("ab")); e != api.OK {
		t.Error("Write at a page's beginning:", e)
	}
	a.Write(0, []byte("abcd"))
	if e := a.Move(1, 0, 3); e != api.OK || !a.Same(0, []byte("aabc")) {
		t.Error("Move(1, 0, 3):", e)
	}
	for _, x := range []struct {
		at, n int
		e     api.Errno
	}{{8192, 0, api.OK}, {8192, 1, api.ErrHandle}, {8193, 0, api.ErrHandle}, {4090, 0, api.OK}, {4090, -1, api.ErrHandle}, {math.MaxInt, math.MaxInt, api.ErrHandle}} {
		if p, e := a.Read(x.at, x.n); len(p) != 0 || e != x.e {
			t.Errorf("Read(%d, %d): %d bytes, %v", x.at, x.n, len(p), e)
		}
	}
	if e := a.Move(0, -1, 1); e != api.ErrHandle {
		t.Error("Move(0, -1, 1):", e)
	}
	if a.Same(-1, nil) || !a.Same(0, nil) {
		t.Error("Same of no bytes at -1 and 0")
	}
	before := whole(t, a)
	if e := a.Fill(8, 0, 7); e != api.OK || !bytes.Equal(whole(t, a), before) {
		t.Error("Fill(8, 0, 7):", e)
	}
	copy(before, bytes.Repeat([]byte{7}, 4096))
	if e := a.Fill(0, 4096, 7); e != api.OK || !bytes.Equal(whole(t, a), before) {
		t.Error("Fill(0, 4096, 7):", e)
	}
}

// P1.4: a Move over bytes that it reads itself, to the left and to the right, at every distance.
func TestMoveOverlaps(t *testing.T) {
	for _, n := range []int{1, 2, 3, 8, 17, 64, 1000} {
		for d := -70; d <= 70; d++ {
			a := marked(t, size, pages)
			must := whole(t, a)
			from, to := size+1500, size+1500+d
			moved := append([]byte(nil), must[from:from+n]...)
			copy(must[to:], moved)
			if e := a.Move(to, from, n); e != api.OK || !bytes.Equal(whole(t, a), must) {
				t.Fatalf("Move of %d by %d: %v", n, d, e)
			}
		}
	}
}

// replay does one call on the arena and on a plain list, and holds the answers against each other.
func replay(t *testing.T, r *rand.Rand, a *arena.Arena, plain []byte) {
	t.Helper()
	at, n := r.Intn(long+20)-10, r.Intn(12)
	if r.Intn(8) == 0 {
		n = r.Intn(size + 10)
	}
	there := isThere(at, n)
	switch r.Intn(7) {
	case 0:
		x := r.Uint32()
		there = isThere(at, 4)
		if e := arena.Put(a, at, x); e != errnoFor(there) {
			t.Fatalf("Put(%d): %v", at, e)
		}
		if there {
			copy(plain[at:], highFirst(uint64(x), 4))
		}
	case 1:
		x, e := arena.Get[uint64](a, at)
		there = isThere(at, 8)
		if e != errnoFor(there) || !there && x != 0 || there && !bytes.Equal(highFirst(x, 8), plain[at:at+8]) {
			t.Fatalf("Get(%d): %#x, %v", at, x, e)
		}
	case 2:
		p, e := a.Read(at, n)
		if e != errnoFor(there) || !there && len(p) != 0 || there && !bytes.Equal(p, plain[at:at+n]) {
			t.Fatalf("Read(%d, %d): %v", at, n, e)
		}
	case 3:
		p := make([]byte, n)
		r.Read(p)
		if e := a.Write(at, p); e != errnoFor(there) {
			t.Fatalf("Write(%d) of %d: %v", at, n, e)
		}
		if there {
			copy(plain[at:], p)
		}
	case 4:
		b := byte(r.Intn(256))
		if e := a.Fill(at, n, b); e != errnoFor(there) {
			t.Fatalf("Fill(%d, %d): %v", at, n, e)
		}
		if there {
			copy(plain[at:], bytes.Repeat([]byte{b}, n))
		}
	case 5:
		from := at + r.Intn(40) - 20
		there = there && isThere(from, n)
		if e := a.Move(at, from, n); e != errnoFor(there) {
			t.Fatalf("Move(%d, %d, %d): %v", at, from, n, e)
		}
		if there {
			copy(plain[at:], append([]byte(nil), plain[from:from+n]...))
		}
	case 6:
		p := make([]byte, n)
		if there {
			copy(p, plain[at:])
		}
		if a.Same(at, p) != there {
			t.Fatalf("Same(%d) of %d bytes", at, n)
		}
	}
}

// P1.6: behind every call of a long row each place holds what was laid there last.
func TestLongRow(t *testing.T) {
	for seed := range int64(4) {
		r := rand.New(rand.NewSource(seed))
		a := made(t, size, pages)
		plain := make([]byte, long)
		for range 5000 {
			replay(t, r, a, plain)
			if !bytes.Equal(whole(t, a), plain) {
				t.Fatal("the arena holds something else than was laid")
			}
		}
		sizesAre(t, a, size, pages)
	}
}
