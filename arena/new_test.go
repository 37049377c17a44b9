package arena_test

import (
	"bytes"
	"math"
	"testing"

	"granary/api"
	"granary/arena"
)

func made(t *testing.T, pageSize, pages int) *arena.Arena {
	t.Helper()
	a, e := arena.New(pageSize, pages)
	if e != api.OK || a == nil {
		t.Fatalf("New(%d, %d): %v", pageSize, pages, e)
	}
	return a
}

// marked is an arena in which no two places near each other hold the same byte, and none holds 0.
func marked(t *testing.T, pageSize, pages int) *arena.Arena {
	t.Helper()
	a := made(t, pageSize, pages)
	for i := range pages {
		p := make([]byte, pageSize)
		for j := range p {
			p[j] = byte((i*pageSize+j)%251 + 1)
		}
		if e := a.Write(i*pageSize, p); e != api.OK {
			t.Fatalf("Write of page %d: %v", i, e)
		}
	}
	return a
}

// whole is all that an arena holds.
func whole(t *testing.T, a *arena.Arena) []byte {
	t.Helper()
	var all []byte
	for i := range a.Pages() {
		p, e := a.Page(i)
		if e != api.OK || len(p) != a.PageSize() {
			t.Fatalf("Page(%d): %d bytes, %v", i, len(p), e)
		}
		all = append(all, p...)
	}
	return all
}

func sizesAre(t *testing.T, a *arena.Arena, pageSize, pages int) {
	t.Helper()
	if a.PageSize() != pageSize || a.Pages() != pages || a.Len() != pageSize*pages {
		t.Errorf("sizes are %d, %d, %d instead of %d, %d, %d", a.PageSize(), a.Pages(), a.Len(), pageSize, pages, pageSize*pages)
	}
}

// P1.1: every size of a page, with few and many pages.
func TestNewTakes(t *testing.T) {
	for size := 4096; size <= 1<<20; size *= 2 {
		for _, pages := range []int{1, 2, 3} {
			a := made(t, size, pages)
			sizesAre(t, a, size, pages)
			if !bytes.Equal(whole(t, a), make([]byte, size*pages)) {
				t.Errorf("New(%d, %d): not all zeros", size, pages)
			}
		}
	}
	for _, pages := range []int{7, 512, 1000, 1023, 1024} {
		a := made(t, 4096, pages)
		sizesAre(t, a, 4096, pages)
		if !bytes.Equal(whole(t, a), make([]byte, 4096*pages)) {
			t.Errorf("New(4096, %d): not all zeros", pages)
		}
	}
}

func refusedNew(t *testing.T, pageSize, pages int) {
	t.Helper()
	if a, e := arena.New(pageSize, pages); a != nil || e != api.ErrArg {
		t.Errorf("New(%d, %d): %v, nil is %v", pageSize, pages, e, a == nil)
	}
}

// P1.1 and R3: what is refused, and that nothing is answered beside the error.
func TestNewRefuses(t *testing.T) {
	for bit := range 63 {
		n := 1 << bit
		if n < 4096 || n > 1<<20 {
			refusedNew(t, n, 1)
		}
		refusedNew(t, -n, 1)
		if bit > 1 {
			refusedNew(t, n-1, 1)
			refusedNew(t, n+1, 1)
			refusedNew(t, n+n/2, 1)
		}
	}
	for _, size := range []int{0, 5000, 4096 + 8, 12288, 1<<20 - 4096, math.MaxInt, math.MinInt, math.MinInt + 4096} {
		refusedNew(t, size, 1)
	}
	for _, pages := range []int{0, -1, -1024, 1025, 2048, 1 << 44, 1 << 52, 1<<52 + 1, math.MaxInt, math.MinInt, math.MinInt + 1} {
		refusedNew(t, 4096, pages)
		refusedNew(t, 1<<20, pages)
		refusedNew(t, 5000, pages)
	}
}

// P1.1: no call changes a size, refused or not.
func TestSizesStay(t *testing.T) {
	a := made(t, 8192, 3)
	for _, at := range []int{0, 8191, 24576, 24577, -1, math.MaxInt} {
		arena.Put(a, at, uint32(7))
		arena.Get[uint32](a, at)
		a.Write(at, []byte("abc"))
		a.Read(at, 3)
		a.Fill(at, 3, 9)
		a.Move(at, 0, 3)
		a.Move(0, at, 3)
		a.Same(at, []byte("abc"))
		a.Page(at)
		sizesAre(t, a, 8192, 3)
	}
}

// R4: two arenas know nothing of each other.
func TestApart(t *testing.T) {
	a, b := made(t, 4096, 2), made(t, 4096, 2)
	a.Fill(0, 4096, 1)
	a.Write(4096, []byte("abc"))
	arena.Put(a, 8184, uint64(math.MaxUint64))
	if !bytes.Equal(whole(t, b), make([]byte, 8192)) {
		t.Error("what was laid in one arena stands in another")
	}
	sizesAre(t, made(t, 8192, 1), 8192, 1)
	sizesAre(t, a, 4096, 2)
}
