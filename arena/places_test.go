package arena_test

import (
	"bytes"
	"math"
	"testing"

	"granary/api"
	"granary/arena"
)

const (
	size  = 4096
	pages = 3
	long  = size * pages
)

// isThere says P1.2 anew, for an arena of pages * size bytes.
func isThere(at, n int) bool {
	if n < 0 || n > long || at < 0 || at > long || at+n > long {
		return false
	}
	return n == 0 || at/size == (at+n-1)/size
}

// manyPlaces are those about the ends of pages and of numbers.
func manyPlaces() []int {
	places := []int{2048, 1 << 31, 1 << 32, 1<<32 + 1, 1 << 62, math.MaxInt - size, math.MinInt + size, -size}
	for page := range pages + 1 {
		for d := -9; d <= 9; d++ {
			places = append(places, page*size+d)
		}
	}
	for d := range 10 {
		places = append(places, math.MaxInt-d, math.MinInt+d)
	}
	return places
}

func manyLengths() []int {
	return []int{0, 1, 2, 3, 4, 7, 8, 9, 100, 2048, 4087, 4088, 4095, 4096, 4097, 8192, 12287, 12288, 12289,
		-1, -2, -4096, math.MinInt, math.MinInt + 1, math.MinInt + 4096, math.MaxInt, math.MaxInt - 1, math.MaxInt - 4096, 1 << 32, 1 << 62}
}

func errnoFor(there bool) api.Errno {
	if there {
		return api.OK
	}
	return api.ErrHandle
}

// P1.2, P1.3, P1.4 and P1.6 of Read.
func TestReadEverywhere(t *testing.T) {
	a := marked(t, size, pages)
	must := whole(t, a)
	for _, at := range manyPlaces() {
		for _, n := range manyLengths() {
			there := isThere(at, n)
			p, e := a.Read(at, n)
			if e != errnoFor(there) {
				t.Errorf("Read(%d, %d): %v", at, n, e)
			} else if !there && len(p) != 0 {
				t.Errorf("Read(%d, %d) is refused and tells %d bytes", at, n, len(p))
			} else if there && !bytes.Equal(p, must[at:at+n]) {
				t.Errorf("Read(%d, %d) tells other bytes", at, n)
			}
		}
	}
	if !bytes.Equal(whole(t, a), must) {
		t.Error("a Read has changed something")
	}
}

// P1.2, P1.3, P1.4 and P1.6 of Fill.
func TestFillEverywhere(t *testing.T) {
	a := marked(t, size, pages)
	must := whole(t, a)
	b := byte(0)
	for _, at := range manyPlaces() {
		for _, n := range manyLengths() {
			b++
			there := isThere(at, n)
			if e := a.Fill(at, n, b); e != errnoFor(there) {
				t.Errorf("Fill(%d, %d): %v", at, n, e)
			}
			if there {
				copy(must[at:], bytes.Repeat([]byte{b}, n))
			}
			if !bytes.Equal(whole(t, a), must) {
				t.Fatalf("Fill(%d, %d) laid something else", at, n)
			}
		}
	}
}

// P1.2, P1.3, P1.4 and P1.6 of Write and Same.
func TestWriteEverywhere(t *testing.T) {
	a := marked(t, size, pages)
	must := whole(t, a)
	b := byte(0)
	for _, at := range manyPlaces() {
		for _, n := range manyLengths() {
			if n < 0 || n > 2*long {
				continue
			}
			b++
			p := bytes.Repeat([]byte{b, b + 1, b + 7}, n/3+1)[:n]
			there := isThere(at, n)
			if e := a.Write(at, p); e != errnoFor(there) {
				t.Errorf("Write(%d) of %d: %v", at, n, e)
			}
			if there {
				copy(must[at:], p)
			}
			if got := a.Same(at, p); got != there {
				t.Errorf("Same(%d) of the %d bytes that were written: %v", at, n, got)
			}
			if !bytes.Equal(whole(t, a), must) {
				t.Fatalf("Write(%d) of %d laid something else", at, n)
			}
		}
	}
}

// P1.2 and P1.3 of Move: both ends are looked at, and nothing is done where one is not there.
func TestMoveEverywhere(t *testing.T) {
	a := marked(t, size, pages)
	must := whole(t, a)
	fixed := []int{0, 1, 4090, 4096, 8000, 8192, 12288, -1, 12289, math.MaxInt, math.MinInt}
	for _, one := range manyPlaces() {
		for _, n := range manyLengths() {
			for _, other := range fixed {
				for _, way := range [][2]int{{one, other}, {other, one}} {
					to, from := way[0], way[1]
					there := isThere(to, n) && isThere(from, n)
					if e := a.Move(to, from, n); e != errnoFor(there) {
						t.Errorf("Move(%d, %d, %d): %v", to, from, n, e)
					}
					if there {
						moved := append([]byte(nil), must[from:from+n]...)
						copy(must[to:], moved)
					}
				}
			}
			if !bytes.Equal(whole(t, a), must) {
				t.Fatalf("Move of %d from or to %d laid something else", n, one)
			}
		}
	}
}

// P1.4 of Same: one byte that differs, wherever it stands, is seen; and Same changes nothing.
func TestSame(t *testing.T) {
	a := marked(t, size, pages)
	must := whole(t, a)
	for _, at := range []int{0, 5, size - 8, size, long - 8} {
		for n := 1; n <= 8; n++ {
			p := append([]byte(nil), must[at:at+n]...)
			if !a.Same(at, p) {
				t.Errorf("Same(%d) of its own %d bytes is false", at, n)
			}
			for i := range p {
				p[i] ^= 0x80
				if a.Same(at, p) {
					t.Errorf("Same(%d) of %d bytes with another at %d is true", at, n, i)
				}
				p[i] ^= 0x80
			}
		}
	}
	if a.Same(4095, must[4095:4097]) {
		t.Error("Same over a page's end is true")
	}
	if a.Same(long-1, []byte{must[long-1], 0}) {
		t.Error("Same beyond the end is true")
	}
	if !a.Same(size, must[size:2*size]) || a.Same(size, must[:size]) {
		t.Error("Same of a whole page")
	}
	for _, at := range []int{0, 4090, 4095, 4096, long} {
		if !a.Same(at, nil) || !a.Same(at, []byte{}) {
			t.Error("Same of no bytes is false at", at)
		}
	}
	for _, at := range []int{-1, long + 1, math.MaxInt, math.MinInt} {
		if a.Same(at, nil) || a.Same(at, []byte{1}) {
			t.Error("Same is true at", at)
		}
	}
	if !bytes.Equal(whole(t, a), must) {
		t.Error("a Same has changed something")
	}
}

// P1.5: which pages there are, and what they tell.
func TestPage(t *testing.T) {
	a := marked(t, size, pages)
	for i := range pages {
		p, e := a.Page(i)
		must, _ := a.Read(i*size, size)
		if e != api.OK || len(p) != size || !bytes.Equal(p, must) {
			t.Errorf("Page(%d): %d bytes, %v", i, len(p), e)
		}
		if p[0] != byte(i*size%251+1) {
			t.Errorf("Page(%d) begins with %d", i, p[0])
		}
	}
	for _, i := range []int{-1, pages, pages + 1, size, math.MaxInt, math.MinInt, 1 << 52, -1 << 52, 1<<52 + 1} {
		if p, e := a.Page(i); len(p) != 0 || e != api.ErrHandle {
			t.Errorf("Page(%d): %d bytes, %v", i, len(p), e)
		}
	}
	one := made(t, 1<<20, 1)
	if p, e := one.Page(0); len(p) != 1<<20 || e != api.OK {
		t.Error("Page of the greatest size:", len(p), e)
	}
	if p, e := one.Page(1); len(p) != 0 || e != api.ErrHandle {
		t.Error("Page(1) of one page:", len(p), e)
	}
}

// P1.2: the ends of pages are where the page's size says, whichever it is.
func TestPageEnds(t *testing.T) {
	for size := 4096; size <= 1<<20; size *= 2 {
		a := made(t, size, 2)
		for _, at := range []int{4095, 4096, 8191, size - 1, size, 2*size - 2} {
			there := at != size-1 && at+2 <= 2*size
			if e := a.Write(at, []byte("ab")); e != errnoFor(there) {
				t.Errorf("pages of %d: Write(%d): %v", size, at, e)
			}
			if e := arena.Put(a, at, uint16(1)); e != errnoFor(there) {
				t.Errorf("pages of %d: Put(%d): %v", size, at, e)
			}
		}
		if p, e := a.Read(size, size); len(p) != size || e != api.OK {
			t.Errorf("pages of %d: the second one is not read: %v", size, e)
		}
		if p, e := a.Read(size-1, size); len(p) != 0 || e != api.ErrHandle {
			t.Errorf("pages of %d: bytes over the end are read: %v", size, e)
		}
	}
}
