package class_test

import (
	"math"
	"testing"

	"granary/api"
	"granary/class"
)

const turn = 1 << 32 // what one generation more adds to a handle

func take(t *testing.T, s *class.Set, c int, must api.Handle) {
	t.Helper()
	if h, e := s.Take(c); h != must || e != api.OK {
		t.Fatalf("Take(%d): %d, %v; not %d", c, h, e, must)
	}
}

func give(t *testing.T, s *class.Set, h api.Handle) {
	t.Helper()
	if e := s.Give(h); e != api.OK {
		t.Fatalf("Give(%d): %v", h, e)
	}
}

// notGood: is a handle refused by both calls that take one?
func notGood(t *testing.T, s *class.Set, h api.Handle) {
	t.Helper()
	if place, c, e := s.At(h); place != 0 || c != 0 || e != api.ErrHandle {
		t.Errorf("At(%d): %d, %d, %v", h, place, c, e)
	}
	if e := s.Give(h); e != api.ErrHandle {
		t.Errorf("Give(%d): %v", h, e)
	}
}

// The runs of the chapter that take and give, one behind the other.
func TestRuns(t *testing.T) {
	s := made(t, plain())
	take(t, s, 2, 1)
	if s.Owner(0) != 2 {
		t.Error("Owner(0):", s.Owner(0))
	}
	take(t, s, 2, 33)
	if place, c, e := s.At(33); place != 256 || c != 2 || e != api.OK {
		t.Error("At(33):", place, c, e)
	}
	if h, ok := s.Of(256); h != 33 || !ok {
		t.Error("Of(256):", h, ok)
	}
	if h, ok := s.Of(8); h != 0 || ok {
		t.Error("Of(8):", h, ok)
	}
	for i := 2; i < 16; i++ {
		take(t, s, 2, api.Handle(32*i+1))
	}
	if h, ok := s.Of(3840); h != 481 || !ok {
		t.Error("the last one is not at place 3840:", h)
	}
	if s.Free(2) != 0 || s.Taken(2) != 16 || s.Quota(2) != 48 || s.FreePages() != 2 {
		t.Error("numbers:", s.Free(2), s.Taken(2), s.Quota(2), s.FreePages())
	}
	take(t, s, 0, 513)
	take(t, s, 1, 1025)
	if h, e := s.Take(2); h != 0 || e != api.ErrRoom {
		t.Error("Take where no page is free:", h, e)
	}
	give(t, s, 33)
	notGood(t, s, 33)
	take(t, s, 2, turn+33)
	give(t, s, 1)
	give(t, s, turn+33)
	take(t, s, 2, 2*turn+33)
	take(t, s, 2, turn+1)
	for _, c := range []int{3, -1} {
		if h, e := s.Take(c); h != 0 || e != api.ErrArg {
			t.Errorf("Take(%d): %d, %v", c, h, e)
		}
	}
	notGood(t, s, 0)
	if h, ok := s.Of(-8); h != 0 || ok {
		t.Error("Of(-8):", h, ok)
	}
}

// P2.4 and P2.6: a page is cut from its first byte on; the lowest free page and the lowest chunk go first; what is behind the last chunk is no chunk's.
func TestPagesAreCut(t *testing.T) {
	c := config(4096, 9, 150, 64, 512)
	for kind, size := range sizesOf(c) {
		s := made(t, c)
		for page := range 9 {
			for i := range 4096 / size {
				place := page*4096 + i*size
				take(t, s, kind, api.Handle(place/8+1))
				if s.Owner(page) != kind || s.Owner(page+1) != -1 || s.FreePages() != 8-page {
					t.Fatalf("class %d: page %d", kind, page)
				}
				if s.Free(kind) != 4096/size-1-i {
					t.Fatalf("class %d: %d chunks are in the row", kind, s.Free(kind))
				}
			}
			for at := 4096 / size * size; at < 4096; at += 8 {
				if h, ok := s.Of(page*4096 + at); h != 0 || ok {
					t.Errorf("class %d: a chunk is behind the last one: %d", kind, h)
				}
				notGood(t, s, api.Handle((page*4096+at)/8+1))
			}
		}
		if h, e := s.Take(kind); h != 0 || e != api.ErrRoom {
			t.Errorf("class %d: a page too many: %d, %v", kind, h, e)
		}
	}
}

// P2.6: a row is empty ahead of a new page, even if other classes have free chunks, and a page stays its class's.
func TestPagesStay(t *testing.T) {
	s := made(t, plain())
	take(t, s, 1, 1)
	take(t, s, 0, 513)
	take(t, s, 2, 1025)
	give(t, s, 1)
	give(t, s, 513)
	give(t, s, 1025)
	for page, must := range []int{1, 0, 2} {
		if s.Owner(page) != must {
			t.Errorf("Owner(%d): %d", page, s.Owner(page))
		}
	}
	for c, must := range []int{64, 32, 16} {
		if s.Free(c) != must || s.Taken(c) != 0 || s.Quota(c) != must {
			t.Error("class", c, s.Free(c), s.Taken(c), s.Quota(c))
		}
	}
	for range 16 {
		if _, e := s.Take(2); e != api.OK {
			t.Fatal("a chunk of its own page is refused:", e)
		}
	}
	if h, e := s.Take(2); h != 0 || e != api.ErrRoom {
		t.Error("a chunk of another class's page:", h, e)
	}
	if s.Owner(-1) != -1 || s.Owner(3) != -1 || s.Owner(math.MaxInt) != -1 || s.Owner(math.MinInt) != -1 {
		t.Error("a page that there is not has an owner")
	}
}

// P2.6: given chunks go ahead of those that were never taken, the last one given first.
func TestRowIsLastInFirstOut(t *testing.T) {
	s := made(t, plain())
	for i := range 4 {
		take(t, s, 2, api.Handle(32*i+1))
	}
	for _, h := range []api.Handle{65, 1, 97} {
		give(t, s, h)
	}
	for _, h := range []api.Handle{turn + 97, turn + 1, turn + 65, 129} {
		take(t, s, 2, h)
	}
	for i := 5; i < 17; i++ { // the row's end, and a page more
		take(t, s, 2, api.Handle(32*i+1))
	}
	give(t, s, 33)
	take(t, s, 2, turn+33)
	take(t, s, 2, 545)
}

// P2.5 and P2.8: only the handle of a taken chunk is good, in its generation.
func TestGoodHandles(t *testing.T) {
	s := made(t, plain())
	take(t, s, 2, 1)
	take(t, s, 1, 513)
	good := map[api.Handle]bool{1: true, 513: true}
	for number := range 2000 {
		for _, g := range []uint64{0, 1, 2, math.MaxUint32} {
			h := api.Handle(g<<32 | uint64(number))
			if !good[h] {
				notGood(t, s, h)
			}
		}
	}
	for _, h := range []api.Handle{1 << 27, 1 << 31, math.MaxUint32, math.MaxUint64, 1 << 63, 1<<63 + 1, 1 << 32} {
		notGood(t, s, h)
	}
	for place := -300; place < 3*4096+300; place++ {
		must := map[int]api.Handle{0: 1, 4096: 513}[place]
		if h, ok := s.Of(place); h != must || ok != (must != 0) {
			t.Errorf("Of(%d): %d, %v", place, h, ok)
		}
	}
	for _, place := range []int{math.MaxInt, math.MinInt, math.MaxInt - 7, -4096, 1 << 35, 1<<35 + 4096, 1<<32 + 4096} {
		if h, ok := s.Of(place); h != 0 || ok {
			t.Errorf("Of(%d): %d, %v", place, h, ok)
		}
	}
	give(t, s, 1)
	if h, ok := s.Of(0); h != 0 || ok {
		t.Error("Of tells a free chunk:", h, ok)
	}
	notGood(t, s, 1)
	notGood(t, s, turn+1) // the next one's handle, ahead of its Take
	take(t, s, 2, turn+1)
	if h, ok := s.Of(0); h != turn+1 || !ok {
		t.Error("Of tells another generation:", h, ok)
	}
	notGood(t, s, 1)
}

// P2.5: each Give makes the generation one more, and no handle comes twice.
func TestGenerations(t *testing.T) {
	s := made(t, plain())
	for g := range uint64(70000) {
		h := api.Handle(g<<32 | 1)
		take(t, s, 0, h)
		if place, c, e := s.At(h); place != 0 || c != 0 || e != api.OK {
			t.Fatal("At:", place, c, e)
		}
		if g > 0 {
			notGood(t, s, h-turn)
		}
		give(t, s, h)
	}
	take(t, s, 0, 70000<<32|1)
	take(t, s, 0, 9)
}

// P2.12: as many Takes as the quota says are in order, and no more.
func TestQuota(t *testing.T) {
	c := config(4096, 7, 150, 64, 512)
	for kind := range sizesOf(c) {
		for ahead := range 4 {
			s := made(t, c)
			for other := range ahead { // pages of other classes
				s.Take((kind + 1 + other) % s.Classes())
			}
			kept, _ := s.Take(kind)
			gone, _ := s.Take(kind)
			s.Give(gone)
			if must := (7 - ahead) * (4096 / s.Chunk(kind)); s.Quota(kind) != must {
				t.Errorf("class %d: a quota of %d, not %d", kind, s.Quota(kind), must)
			}
			left := s.Quota(kind) - s.Taken(kind)
			for range left {
				if _, e := s.Take(kind); e != api.OK {
					t.Fatalf("class %d: a Take within the quota: %v", kind, e)
				}
			}
			if h, e := s.Take(kind); h != 0 || e != api.ErrRoom || s.Taken(kind) != s.Quota(kind) {
				t.Errorf("class %d: a Take beyond the quota: %d, %v", kind, h, e)
			}
			give(t, s, kept)
			take(t, s, kind, kept+turn)
		}
	}
}

// The greatest arena: the last chunk's handle is in order too.
func TestGreatestSet(t *testing.T) {
	s := made(t, config(1<<20, 1024, 400, 64, 1<<20))
	last := s.Classes() - 1
	for i := range 1024 {
		take(t, s, last, api.Handle(i<<17+1))
	}
	if s.FreePages() != 0 || s.Quota(last) != 1024 || s.Quota(0) != 0 {
		t.Error("numbers:", s.FreePages(), s.Quota(last), s.Quota(0))
	}
	if place, c, e := s.At(1023<<17 + 1); place != 1023<<20 || c != last || e != api.OK {
		t.Error("At:", place, c, e)
	}
	if h, ok := s.Of(1023 << 20); h != 1023<<17+1 || !ok {
		t.Error("Of:", h, ok)
	}
	notGood(t, s, 1<<27+1)
}
