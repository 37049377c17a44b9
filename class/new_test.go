package class_test

import (
	"math"
	"math/big"
	"slices"
	"testing"

	"granary/api"
	"granary/class"
)

func config(page, pages, factor, least, limit int) api.Config {
	return api.Config{PageSize: page, Pages: pages, Factor: factor, MinChunk: least, ItemLimit: limit}
}

// plain is the config of the chapter's runs: chunks of 64, 128 and 256 bytes.
func plain() api.Config { return config(4096, 3, 200, 64, 256) }

func made(t *testing.T, c api.Config) *class.Set {
	t.Helper()
	s, e := class.New(c)
	if e != api.OK || s == nil {
		t.Fatalf("New(%v): %v", c, e)
	}
	return s
}

func refused(t *testing.T, c api.Config, must api.Errno) {
	t.Helper()
	if s, e := class.New(c); s != nil || e != must {
		t.Errorf("New(%v): %v, not %v", c, e, must)
	}
}

// wholeUp is the least whole number not below n / by, worked out with fractions.
func wholeUp(n, by int) int {
	exact := big.NewRat(int64(n), int64(by))
	up := new(big.Int).Quo(exact.Num(), exact.Denom())
	if new(big.Rat).SetInt(up).Cmp(exact) < 0 {
		up.Add(up, big.NewInt(1))
	}
	return int(up.Int64())
}

// sizesOf says P2.1 anew, however many classes it makes.
func sizesOf(c api.Config) []int {
	limit := 8 * wholeUp(c.ItemLimit, 8)
	sizes := []int{c.MinChunk}
	for s := c.MinChunk; s < limit; {
		s = min(limit, 8*wholeUp(s*c.Factor, 800))
		sizes = append(sizes, s)
	}
	return sizes
}

func chunksOf(s *class.Set) []int {
	var sizes []int
	for c := range s.Classes() {
		sizes = append(sizes, s.Chunk(c))
	}
	return sizes
}

// P2.1: the sizes of the chapter's runs.
func TestSizesOfRuns(t *testing.T) {
	for _, x := range []struct {
		c    api.Config
		must []int
	}{
		{plain(), []int{64, 128, 256}},
		{config(4096, 9, 150, 64, 512), []int{64, 96, 144, 216, 328, 496, 512}},
		{config(4096, 1, 400, 64, 64), []int{64}},
		{config(4096, 2, 400, 64, 65), []int{64, 72}},
		{config(4096, 2, 400, 64, 72), []int{64, 72}},
		{config(4096, 3, 400, 512, 4096), []int{512, 2048, 4096}},
		{config(4096, 1, 105, 512, 512), []int{512}},
		{config(4096, 9, 105, 64, 96), []int{64, 72, 80, 88, 96}},
		{config(4096, 9, 113, 64, 90), []int{64, 80, 96}},
	} {
		if s := made(t, x.c); !slices.Equal(chunksOf(s), x.must) {
			t.Errorf("New(%v): chunks of %v", x.c, chunksOf(s))
		}
	}
	if s := made(t, config(4096, 99, 107, 64, 4096)); s.Classes() != 55 {
		t.Error("Factor 107:", s.Classes(), "classes")
	}
	if n := len(sizesOf(config(4096, 99, 105, 64, 4096))); n != 72 {
		t.Error("Factor 105 makes 72 classes, not", n)
	}
}

// P2.1 and ErrMany, ErrSmall of P2.2: every factor, with many least chunks and item limits.
func TestSizesEverywhere(t *testing.T) {
	for factor := api.MinFactor; factor <= api.MaxFactor; factor++ {
		for _, least := range []int{64, 72, 120, 504, 512} {
			for _, limit := range []int{512, 513, 519, 520, 521, 1000, 1024, 2047, 4088, 4089, 4095, 4096} {
				c := config(4096, 100, factor, least, limit)
				must := sizesOf(c)
				if len(must) > api.MaxClasses {
					refused(t, c, api.ErrMany)
					continue
				}
				s := made(t, c)
				if !slices.Equal(chunksOf(s), must) {
					t.Fatalf("New(%v): chunks of %v, not %v", c, chunksOf(s), must)
				}
				c.Pages = len(must)
				made(t, c)
				if c.Pages--; c.Pages > 0 {
					refused(t, c, api.ErrSmall)
				}
			}
		}
	}
}

// What P2.1 says of all sizes: they rise, are multiples of 8, begin with MinChunk, end with the item limit rounded up.
func TestSizesRise(t *testing.T) {
	for _, c := range []api.Config{plain(), config(1<<20, 62, 125, 512, 1<<20), config(1<<20, 62, 118, 64, 1<<20), config(8192, 10, 400, 72, 8189), config(65536, 62, 112, 96, 50001)} {
		s := made(t, c)
		sizes := chunksOf(s)
		for i, n := range sizes {
			if n%8 != 0 || i > 0 && n <= sizes[i-1] {
				t.Errorf("New(%v): chunks of %v", c, sizes)
			}
		}
		if last := sizes[len(sizes)-1]; sizes[0] != c.MinChunk || last < c.ItemLimit || last > c.ItemLimit+7 {
			t.Errorf("New(%v): chunks of %v", c, sizes)
		}
	}
}

// P2.2: just MaxClasses classes are in order, one more is not.
func TestManyClasses(t *testing.T) {
	limit := 64
	for len(sizesOf(config(4096, 99, 105, 64, limit))) < api.MaxClasses {
		limit += 8
	}
	if s := made(t, config(4096, 99, 105, 64, limit)); s.Classes() != api.MaxClasses {
		t.Error("classes:", s.Classes())
	}
	for len(sizesOf(config(4096, 99, 105, 64, limit))) == api.MaxClasses {
		made(t, config(4096, 62, 105, 64, limit))
		refused(t, config(4096, 61, 105, 64, limit), api.ErrSmall)
		limit++
	}
	refused(t, config(4096, 99, 105, 64, limit), api.ErrMany)
	refused(t, config(4096, 63, 105, 64, limit), api.ErrMany)
	refused(t, config(4096, 1, 105, 64, limit), api.ErrMany)
}

// P2.2: each field one past its bounds, and just at them.
func TestBounds(t *testing.T) {
	for _, c := range []api.Config{
		config(4095, 3, 200, 64, 256), config(4097, 3, 200, 64, 256), config(5000, 3, 200, 64, 256), config(2048, 3, 200, 64, 256), config(1<<21, 3, 200, 64, 256), config(0, 3, 200, 64, 256), config(-4096, 3, 200, 64, 256), config(math.MaxInt, 3, 200, 64, 256), config(math.MinInt, 3, 200, 64, 256),
		config(4096, 0, 200, 64, 256), config(4096, -1, 200, 64, 256), config(4096, 1025, 200, 64, 256), config(4096, math.MaxInt, 200, 64, 256), config(4096, math.MinInt, 200, 64, 256),
		config(4096, 99, 104, 64, 256), config(4096, 3, 401, 64, 256), config(4096, 3, 0, 64, 256), config(4096, 3, -200, 64, 256), config(4096, 3, math.MaxInt, 64, 256), config(4096, 3, math.MinInt, 64, 256),
		config(4096, 3, 200, 56, 256), config(4096, 3, 200, 63, 256), config(4096, 3, 200, 65, 256), config(4096, 3, 200, 68, 256), config(4096, 3, 200, 511, 1024), config(4096, 3, 200, 513, 1024), config(4096, 3, 200, 520, 1024), config(4096, 3, 200, 0, 256), config(4096, 3, 200, -64, 256), config(4096, 3, 200, math.MinInt, 256), config(4096, 3, 200, math.MaxInt-7, math.MaxInt),
		config(4096, 3, 200, 64, 63), config(4096, 3, 200, 512, 511), config(4096, 9, 200, 64, 4097), config(4096, 3, 200, 64, 0), config(4096, 3, 200, 64, -256), config(4096, 3, 200, 64, math.MaxInt), config(4096, 3, 200, 64, math.MinInt),
		config(0, 0, 0, 0, 0), config(math.MaxInt, 3, 200, 64, math.MaxInt), config(1<<40, 3, 105, 64, 1<<40),
	} {
		refused(t, c, api.ErrArg)
	}
	for _, c := range []api.Config{
		config(4096, 3, 200, 64, 256), config(1<<20, 3, 200, 64, 256), config(4096, 1024, 200, 64, 256), config(4096, 99, 105, 64, 256), config(4096, 3, 400, 64, 256), config(4096, 3, 400, 512, 4096), config(4096, 3, 200, 72, 256), config(4096, 1, 200, 64, 64), config(4096, 1, 200, 512, 512), config(4096, 7, 200, 64, 4096),
	} {
		made(t, c)
	}
}

// P2.2 and R3: ErrArg comes ahead of ErrMany, and this ahead of ErrSmall.
func TestFirstError(t *testing.T) {
	many := config(4096, 1, 105, 64, 4096)
	refused(t, many, api.ErrMany)
	for _, spoil := range []func(*api.Config){
		func(c *api.Config) { c.PageSize = 4100 },
		func(c *api.Config) { c.Pages = 0 },
		func(c *api.Config) { c.Pages = 1025 },
		func(c *api.Config) { c.Factor = 104 },
		func(c *api.Config) { c.MinChunk = 68 },
		func(c *api.Config) { c.ItemLimit = 4097 },
	} {
		c := many
		spoil(&c)
		refused(t, c, api.ErrArg)
	}
	for _, c := range []api.Config{config(4096, 0, 99, 60, 0), config(4096, 1, 401, 64, 256), config(4096, 1, 200, 520, 1024), config(4096, 1, 200, 64, 4097)} {
		refused(t, c, api.ErrArg)
	}
	refused(t, config(4096, 1, 400, 64, 65), api.ErrSmall)
	refused(t, config(4096, 2, 200, 64, 256), api.ErrSmall)
}

// P2.2: what a new set tells; Hot and Warm are told, but not looked at.
func TestNewSet(t *testing.T) {
	for _, share := range []int{0, 30, 91, -1, math.MaxInt, math.MinInt} {
		c := plain()
		c.Hot, c.Warm = share, share
		if s := made(t, c); s.Config() != c {
			t.Errorf("New(%v) tells %v", c, s.Config())
		}
	}
	s := made(t, config(8192, 5, 200, 64, 256))
	a := s.Arena()
	if a == nil || a.PageSize() != 8192 || a.Pages() != 5 {
		t.Fatal("another arena than was asked for")
	}
	if s.FreePages() != 5 || s.Classes() != 3 {
		t.Error("free pages, classes:", s.FreePages(), s.Classes())
	}
	for page := -1; page <= 5; page++ {
		if s.Owner(page) != -1 {
			t.Error("page", page, "of a new set has an owner")
		}
	}
	for c := range 3 {
		if s.Free(c) != 0 || s.Taken(c) != 0 || s.Quota(c) != 5*8192/s.Chunk(c) {
			t.Error("class", c, "of a new set:", s.Free(c), s.Taken(c), s.Quota(c))
		}
	}
	for at := -8; at <= 5*8192; at += 8 {
		if h, ok := s.Of(at); h != 0 || ok {
			t.Error("a chunk of a new set is taken:", at, h)
		}
	}
	s.Take(0)
	s.Take(2)
	if s.Arena() != a {
		t.Error("the arena is not always the same")
	}
}

// R4: two sets know nothing of each other.
func TestTwoSets(t *testing.T) {
	one, two := made(t, plain()), made(t, plain())
	if one.Arena() == two.Arena() {
		t.Fatal("two sets have one arena")
	}
	h, _ := one.Take(1)
	if _, _, e := two.At(h); e != api.ErrHandle || two.FreePages() != 3 || two.Taken(1) != 0 {
		t.Error("a Take of one set is seen in another")
	}
	one.Arena().Fill(16, 112, 7)
	k, _ := two.Take(1)
	if h != k || one.Give(h) != api.OK {
		t.Error("two sets of one config answer unlike:", h, k)
	}
	if place, c, e := two.At(k); place != 0 || c != 1 || e != api.OK {
		t.Error("a Give of one set is seen in another")
	}
}

// P2.3: every number from below 1 to above the limit, of sets with unlike limits.
func TestFor(t *testing.T) {
	for _, c := range []api.Config{plain(), config(4096, 9, 150, 64, 509), config(4096, 1, 400, 64, 64), config(4096, 55, 107, 64, 4096)} {
		s := made(t, c)
		sizes := sizesOf(c)
		for n := 1; n <= 4200; n++ {
			must, e := slices.IndexFunc(sizes, func(size int) bool { return size >= n }), api.OK
			if must < 0 {
				must, e = 0, api.ErrLong
			}
			if got, ge := s.For(n); got != must || ge != e {
				t.Errorf("%v: For(%d): %d, %v, not %d, %v", c, n, got, ge, must, e)
			}
		}
		for _, n := range []int{0, -1, -64, math.MinInt} {
			if got, e := s.For(n); got != 0 || e != api.ErrArg {
				t.Errorf("%v: For(%d): %d, %v", c, n, got, e)
			}
		}
		if got, e := s.For(math.MaxInt); got != 0 || e != api.ErrLong {
			t.Errorf("%v: For of the greatest number: %d, %v", c, got, e)
		}
	}
}

// P2.2 and P2.9: of a class that there is not nothing is told.
func TestNoSuchClass(t *testing.T) {
	s := made(t, plain())
	s.Take(2)
	for _, c := range []int{-1, 3, 4, 62, math.MaxInt, math.MinInt, 1 << 32, -1 << 32} {
		if s.Chunk(c) != 0 || s.Free(c) != 0 || s.Taken(c) != 0 || s.Quota(c) != 0 {
			t.Error("something is told of class", c)
		}
		if h, e := s.Take(c); h != 0 || e != api.ErrArg {
			t.Errorf("Take(%d): %d, %v", c, h, e)
		}
	}
	if s.FreePages() != 2 || s.Taken(2) != 1 {
		t.Error("a Take that was refused has changed something")
	}
}
