package table

import (
	"strconv"
	"testing"

	"granary/api"
	"granary/class"
	"granary/hash"
	"granary/item"
)

func setOf(t *testing.T, pageSize, pages, minChunk int) *class.Set {
	t.Helper()
	s, e := class.New(api.Config{PageSize: pageSize, Pages: pages, Factor: 400, MinChunk: minChunk, ItemLimit: minChunk})
	if e != api.OK {
		t.Fatal("class.New:", e)
	}
	return s
}

func tableOf(t *testing.T, s *class.Set) *Table {
	t.Helper()
	x, e := New(s)
	if e != api.OK {
		t.Fatal("New:", e)
	}
	return x
}

// P5.1: Most, by the chunks that all pages could hold, whoever's they are.
func TestMost(t *testing.T) {
	for _, x := range []struct{ pageSize, pages, minChunk, must int }{
		{4096, 3, 64, 512}, {4096, 1, 64, 256}, {4096, 2, 64, 512}, {4096, 4, 64, 1024},
		{4096, 1, 512, 32}, {4096, 3, 512, 64}, {4096, 1, 504, 32},
		{4096, 9, 72, 1024}, {4096, 10, 72, 2048}, // 56 a page: 504 and 560
		{1 << 20, 15, 64, 1 << 19}, {1 << 20, 16, 64, 1 << 20}, {1 << 20, 17, 64, 1 << 20}, {1 << 20, 32, 64, 1 << 20},
	} {
		if most := tableOf(t, setOf(t, x.pageSize, x.pages, x.minChunk)).most; most != x.must {
			t.Errorf("pages %d of %d, chunks of %d: %d, not %d", x.pages, x.pageSize, x.minChunk, most, x.must)
		}
	}
	s, e := class.New(api.Config{PageSize: 4096, Pages: 3, Factor: 200, MinChunk: 64, ItemLimit: 256})
	if e != api.OK {
		t.Fatal(e)
	}
	for c := range 3 {
		s.Take(c)
	}
	if most := tableOf(t, s).most; most != 512 {
		t.Error("with all pages taken by classes:", most)
	}
	if most := tableOf(t, &class.Set{}).most; most != 16 {
		t.Error("of a set without pages:", most)
	}
}

// inRoom: do the buckets take no more than one and a half times what Most take?
func inRoom(t *testing.T, x *Table) {
	t.Helper()
	if room := cap(x.heads) + cap(x.old); 2*room > 3*x.most {
		t.Fatalf("room for %d buckets, Most is %d", room, x.most)
	}
}

// inPlace: is each item in the one bucket that is its key's: an old one, if that has not gone, else a new one?
func inPlace(t *testing.T, x *Table) {
	t.Helper()
	seen := 0
	check := func(list []api.Handle, from int) {
		for i := from; i < len(list); i++ {
			for h := list[i]; h != 0; h = x.next(h) {
				seen++
				if at := hash.Sum(x.key(h)) % uint64(len(list)); at != uint64(i) {
					t.Fatalf("%q is in bucket %d of %d, not in %d", x.key(h), i, len(list), at)
				}
			}
		}
	}
	check(x.heads, 0)
	check(x.old, max(0, len(x.old)-x.moving)) // a move that is decided has no old buckets yet
	if seen != x.items {
		t.Fatalf("%d items are in buckets, Len is %d", seen, x.items)
	}
}

// laid is an item of the i-th key.
func laid(t *testing.T, s *class.Set, i int) api.Handle {
	t.Helper()
	h, e := s.Take(0)
	if e != api.OK {
		t.Fatal("class.Take:", e)
	}
	if e := item.Lay(s, h, api.Item{Key: strconv.AppendInt(nil, int64(i), 36), State: api.None}); e != api.OK {
		t.Fatal("item.Lay:", e)
	}
	return h
}

// P5.7: at every moment of a move each item is in one of the buckets of its key, and the buckets take no more room than they may.
func TestPlaceAndRoom(t *testing.T) {
	for _, pace := range []int{1, 3, 8} {
		s := setOf(t, 4096, 8, 64)
		x := tableOf(t, s)
		var all []api.Handle
		for i := range 512 {
			all = append(all, laid(t, s, i))
			x.Put(all[i])
			inPlace(t, x)
			x.Step(pace)
			inPlace(t, x)
			inRoom(t, x)
		}
		for _, h := range all {
			x.Take(h)
			inPlace(t, x)
			x.Step(pace)
			inPlace(t, x)
			inRoom(t, x)
		}
		x.Step(x.Moving())
		if x.old != nil || cap(x.heads) > x.Buckets() {
			t.Errorf("behind all moves there is room for %d and %d buckets", cap(x.heads), cap(x.old))
		}
	}
}

// P5.7: Step(n) looks at the items of n old buckets alone; the others are not touched.
func TestStepLooksAtItsBuckets(t *testing.T) {
	s := setOf(t, 4096, 8, 64)
	x := tableOf(t, s)
	for i := range 49 {
		x.Put(laid(t, s, i))
	}
	x.Step(16)
	x.Put(laid(t, s, 49))
	was := append([]api.Handle{}, x.heads...)
	for gone := 5; gone < 32; gone += 5 {
		x.Step(5)
		for i, h := range x.old {
			if i >= gone && h != was[i] {
				t.Fatalf("%d buckets have gone, and bucket %d is another", gone, i)
			}
		}
		for _, h := range x.heads {
			for ; h != 0; h = x.next(h) {
				if i := hash.Sum(x.key(h)) % 32; i >= uint64(gone) {
					t.Fatalf("%d buckets have gone, and an item of bucket %d", gone, i)
				}
			}
		}
	}
}

// The limit of buckets: at MaxBuckets the table grows no more, however many items come.
func TestMaxBuckets(t *testing.T) {
	s := setOf(t, 1<<17, 800, 64)
	x := tableOf(t, s)
	full := api.MaxBuckets * 3 / 2
	for i := range full + 9 {
		x.Put(laid(t, s, i))
		if x.Step(8); i%4096 == 0 {
			inRoom(t, x)
		}
		if i == full/2 && (x.Buckets() != api.MaxBuckets || x.Moving() == 0) {
			t.Fatalf("with %d items: Buckets %d, Moving %d", i+1, x.Buckets(), x.Moving())
		}
	}
	if x.Len() != full+9 || x.Buckets() != api.MaxBuckets || x.Moving() != 0 {
		t.Errorf("Len %d, Buckets %d, Moving %d", x.Len(), x.Buckets(), x.Moving())
	}
	inRoom(t, x)
	for i := range full + 9 {
		if _, ok := x.Find(strconv.AppendInt(nil, int64(i), 36)); !ok {
			t.Fatal("not found:", i)
		}
	}
}
