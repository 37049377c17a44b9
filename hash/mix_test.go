package hash_test

import (
	"math"
	"math/big"
	"math/rand"
	"testing"

	"granary/hash"
)

const (
	stir  = 0xBF58476D1CE4E5B9
	again = 0x94D049BB133111EB
)

// mixed is Mix by numbers that do not wrap.
func mixed(h uint64) uint64 {
	h = times(h^h/(1<<30), stir)
	h = times(h^h/(1<<27), again)
	return h ^ h/(1<<31)
}

// unmixed is the number of which Mix made h: each step is undone.
func unmixed(h uint64) uint64 {
	h = unshifted(h, 31)
	h = unshifted(times(h, inverse(again)), 27)
	return unshifted(times(h, inverse(stir)), 30)
}

// unshifted is the number that, XORed with itself >> k, is h.
func unshifted(h uint64, k int) uint64 {
	whole := h
	for at := k; at < 64; at += k {
		whole ^= h >> at
	}
	return whole
}

// inverse is the number by which a multiplication with odd is undone.
func inverse(odd uint64) uint64 {
	return new(big.Int).ModInverse(wide(odd), new(big.Int).Lsh(big.NewInt(1), 64)).Uint64()
}

// numbers are such as lie at edges, and others, the same in each run.
func numbers(seed int64, n int) []uint64 {
	all := []uint64{0, 1, 2, math.MaxUint64, math.MaxUint64 - 1, math.MaxInt64, 1 << 63, beginning}
	for bit := range 64 {
		all = append(all, 1<<bit, 1<<bit-1)
	}
	from := rand.New(rand.NewSource(seed))
	for range n {
		all = append(all, from.Uint64())
	}
	return all
}

// places are numbers of places, those below 2 among them.
func places() []int {
	return []int{math.MinInt, -1 << 32, -3, -2, -1, 0, 1, 2, 3, 7, 10, 16, 63, 64, 65, 1000, 1 << 20, 1<<31 - 1, 1 << 31, 1 << 32, 1<<32 + 1, 1 << 62, math.MaxInt - 1, math.MaxInt}
}

// P4.2: the chapter's runs, and what the generator of Steele, Lea and Flood that mixes so tells of the seed 0.
func TestKnownMixtures(t *testing.T) {
	for h, must := range map[uint64]uint64{
		0:                  0,
		1:                  0x5692161D100B05E5,
		0x9E3779B97F4A7C15: 0xE220A8397B1DCDAF,
		0x3C6EF372FE94F82A: 0x6E789E6AA1B965F4,
		0xDAA66D2C7DDF743F: 0x06C45D188009454F,
		0x78DDE6E5FD29F054: 0xF88BB8A8724C81EC,
	} {
		if got := hash.Mix(h); got != must {
			t.Errorf("Mix(%#x) is %#x instead of %#x", h, got, must)
		}
	}
}

// P4.2: Mix against one that does not wrap; each step can be undone, so unlike numbers have unlike mixtures.
func TestMixtures(t *testing.T) {
	seen := map[uint64]uint64{}
	for _, h := range numbers(3, 2000) {
		got := hash.Mix(h)
		if must := mixed(h); got != must {
			t.Errorf("Mix(%#x) is %#x instead of %#x", h, got, must)
		}
		if back := unmixed(got); back != h {
			t.Errorf("Mix(%#x) is undone to %#x", h, back)
		}
		if other, there := seen[got]; there && other != h {
			t.Errorf("%#x and %#x have one mixture", h, other)
		}
		seen[got] = h
	}
}

// P4.3: the chapter's runs.
func TestKnownSlots(t *testing.T) {
	for n, must := range map[int]int{2: 1, 1: 0, 0: 0, -3: 0} {
		if got := hash.Slot(1, n); got != must {
			t.Errorf("Slot(1, %d) is %d instead of %d", n, got, must)
		}
	}
}

// P4.3: numbers of all kinds and places of all kinds: the remainder of the mixture as a number without a sign.
func TestSlots(t *testing.T) {
	for _, h := range numbers(4, 200) {
		for _, n := range places() {
			must := 0
			if n >= 2 {
				must = int(new(big.Int).Mod(wide(mixed(h)), big.NewInt(int64(n))).Int64())
			}
			got := hash.Slot(h, n)
			if got != must {
				t.Errorf("Slot(%#x, %d) is %d instead of %d", h, n, got, must)
			}
			if got < 0 || got > 0 && got >= n {
				t.Errorf("Slot(%#x, %d) is %d, which is no place", h, n, got)
			}
		}
	}
}

// P4.3: the second of the chapter's examples; every place comes, the last too.
func TestSlotsOfSixtyFour(t *testing.T) {
	var seen [64]bool
	for h := range uint64(2000) {
		at := hash.Slot(h, 64)
		if uint64(at) != hash.Mix(h)%64 {
			t.Errorf("Slot(%d, 64) is %d", h, at)
		}
		seen[at] = true
	}
	for at, there := range seen {
		if !there {
			t.Errorf("no number is at %d", at)
		}
	}
}

// P4.4: the upper 32 bits of the mixture.
func TestPoint(t *testing.T) {
	if got := hash.Point(1); got != 0x5692161D {
		t.Errorf("Point(1) is %#x", got)
	}
	if got := hash.Point(0); got != 0 {
		t.Errorf("Point(0) is %#x", got)
	}
	for _, h := range numbers(5, 2000) {
		if got := hash.Point(h); uint64(got) != mixed(h)/(1<<32) {
			t.Errorf("Point(%#x) is %#x", h, got)
		}
	}
}

// P4.4: points lie on both halves of the circle, its ends too.
func TestPointsEnds(t *testing.T) {
	for h, must := range map[uint64]uint32{
		unmixed(0):                  0,
		unmixed(1<<32 - 1):          0,
		unmixed(1 << 32):            1,
		unmixed(1 << 63):            1 << 31,
		unmixed(math.MaxUint64):     math.MaxUint32,
		unmixed(0xFFFFFFFF00000000): math.MaxUint32,
	} {
		if got := hash.Point(h); got != must {
			t.Errorf("Point(%#x) is %#x instead of %#x", h, got, must)
		}
	}
}
