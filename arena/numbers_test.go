package arena_test

import (
	"bytes"
	"math"
	"testing"

	"granary/api"
	"granary/arena"
)

type (
	own8  uint8
	own16 uint16
	own32 uint32
	own64 uint64
)

// highFirst is how a number must lie in so many bytes.
func highFirst(n uint64, wide int) []byte {
	p := make([]byte, wide)
	for i := range p {
		p[i] = byte(n >> (8 * (wide - 1 - i)))
	}
	return p
}

// numbersLie: P1.4 and P1.6 for one type of so many bytes, at every kind of place that has room.
func numbersLie[N arena.Size](t *testing.T, name string, wide int) {
	t.Helper()
	const size, pages = 4096, 3
	for _, at := range []int{0, 1, 3, 100, size - wide, size, size + 1, 2*size - wide, 3*size - wide} {
		for _, n := range []uint64{0, 1, 0x80, 0xff, 0x0102030405060708, 0xf1e2d3c4b5a69788, 1 << 63, math.MaxUint64} {
			a := marked(t, size, pages)
			must := whole(t, a)
			copy(must[at:], highFirst(n, wide))
			if e := arena.Put(a, at, N(n)); e != api.OK {
				t.Errorf("%s: Put(%d): %v", name, at, e)
			}
			if !bytes.Equal(whole(t, a), must) {
				t.Errorf("%s: Put(%d, %#x) laid something else", name, at, n)
			}
			if got, e := arena.Get[N](a, at); got != N(n) || e != api.OK {
				t.Errorf("%s: Get(%d) is %#x, %v instead of %#x", name, at, got, e, N(n))
			}
			if !bytes.Equal(whole(t, a), must) {
				t.Errorf("%s: Get(%d) has changed something", name, at)
			}
		}
	}
}

func TestNumbersLie(t *testing.T) {
	numbersLie[uint8](t, "uint8", 1)
	numbersLie[uint16](t, "uint16", 2)
	numbersLie[uint32](t, "uint32", 4)
	numbersLie[uint64](t, "uint64", 8)
	numbersLie[own8](t, "own8", 1)
	numbersLie[own16](t, "own16", 2)
	numbersLie[own32](t, "own32", 4)
	numbersLie[own64](t, "own64", 8)
	numbersLie[api.Handle](t, "api.Handle", 8)
}

// numbersRefused: P1.3 for one type, at each place of which the bytes are not all there.
func numbersRefused[N arena.Size](t *testing.T, name string, wide int) {
	t.Helper()
	const size, pages = 4096, 3
	a := marked(t, size, pages)
	must := whole(t, a)
	var bad []int
	for page := range pages {
		for back := 1; back < wide; back++ {
			bad = append(bad, (page+1)*size-back)
		}
	}
	for d := range 9 {
		bad = append(bad, -1-d, size*pages+d, math.MaxInt-d, math.MinInt+d)
	}
	bad = append(bad, -size, 4*size, 1<<32, 1<<62)
	for _, at := range bad {
		if n, e := arena.Get[N](a, at); n != 0 || e != api.ErrHandle {
			t.Errorf("%s: Get(%d) is %d, %v", name, at, n, e)
		}
		if e := arena.Put(a, at, ^N(0)); e != api.ErrHandle {
			t.Errorf("%s: Put(%d): %v", name, at, e)
		}
	}
	if !bytes.Equal(whole(t, a), must) {
		t.Errorf("%s: a refused call has laid something", name)
	}
	for _, at := range []int{0, -1, math.MaxInt} {
		if n, e := arena.Get[N](nil, at); n != 0 || e != api.ErrArg {
			t.Errorf("%s: Get(%d) of no arena is %d, %v", name, at, n, e)
		}
		if e := arena.Put(nil, at, N(1)); e != api.ErrArg {
			t.Errorf("%s: Put(%d) into no arena: %v", name, at, e)
		}
	}
}

func TestNumbersRefused(t *testing.T) {
	numbersRefused[uint8](t, "uint8", 1)
	numbersRefused[uint16](t, "uint16", 2)
	numbersRefused[uint32](t, "uint32", 4)
	numbersRefused[uint64](t, "uint64", 8)
	numbersRefused[own8](t, "own8", 1)
	numbersRefused[own16](t, "own16", 2)
	numbersRefused[own32](t, "own32", 4)
	numbersRefused[own64](t, "own64", 8)
}

// The runs and examples of the chapter that speak of numbers.
func TestNumberRuns(t *testing.T) {
	a := made(t, 4096, 1)
	if e := arena.Put(a, 4094, uint16(258)); e != api.OK {
		t.Error("Put of 258:", e)
	}
	high, e1 := arena.Get[uint8](a, 4094)
	low, e2 := arena.Get[uint8](a, 4095)
	if high != 1 || low != 2 || e1 != api.OK || e2 != api.OK {
		t.Error("258 lies as", high, low, e1, e2)
	}
	if e := arena.Put(a, 4095, uint16(1)); e != api.ErrHandle {
		t.Error("Put over the end:", e)
	}
	if low, _ := arena.Get[uint8](a, 4095); low != 2 {
		t.Error("a refused Put laid", low)
	}
	if e := arena.Put(a, 0, uint64(1)); e != api.OK {
		t.Error("Put of 1:", e)
	}
	if p, _ := a.Read(0, 8); !bytes.Equal(p, []byte{0, 0, 0, 0, 0, 0, 0, 1}) {
		t.Error("1 of 64 bits lies as", p)
	}
	two, _ := arena.Get[uint16](a, 6)
	four, _ := arena.Get[uint32](a, 4)
	if two != 1 || four != 1 {
		t.Error("the lower parts of 1 are", two, four)
	}
}
