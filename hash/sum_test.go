package hash_test

import (
	"bytes"
	"hash/fnv"
	"math/big"
	"math/rand"
	"slices"
	"testing"

	"granary/hash"
)

const (
	beginning = 0xCBF29CE484222325
	prime     = 0x100000001B3
)

// known are sums that FNV's authors tell, and the chapter's own.
func known() map[string]uint64 {
	return map[string]uint64{
		"":       0xCBF29CE484222325,
		"a":      0xAF63DC4C8601EC8C,
		"b":      0xAF63DF4C8601F1A5,
		"c":      0xAF63DE4C8601EFF2,
		"d":      0xAF63D94C8601E773,
		"e":      0xAF63D84C8601E5C0,
		"f":      0xAF63DB4C8601EAD9,
		"fo":     0x08985907B541D342,
		"foo":    0xDCB27518FED9D577,
		"foob":   0xDD120E790C2512AF,
		"fooba":  0xCAC165AFA2FEF40A,
		"foobar": 0x85944171F73967E8,
		"\x00":   0xAF63BD4C8601B7DF,
		"a\x00":  0x089BE207B544F1E4,
	}
}

// wide is a number of 64 bits among numbers that do not wrap.
func wide(n uint64) *big.Int { return new(big.Int).SetUint64(n) }

// times multiplies without wrapping, and takes the remainder by 2^64.
func times(a, b uint64) uint64 {
	all := new(big.Int).Mul(wide(a), wide(b))
	return all.Mod(all, new(big.Int).Lsh(big.NewInt(1), 64)).Uint64()
}

// goneOn is what bytes make of a sum, by numbers that do not wrap.
func goneOn(sum uint64, b []byte) uint64 {
	for _, c := range b {
		sum = times(sum^uint64(c), prime)
	}
	return sum
}

func sumIs(t *testing.T, b []byte, must uint64) {
	t.Helper()
	if got := hash.Sum(b); got != must {
		t.Errorf("Sum(%q) is %#x instead of %#x", b, got, must)
	}
}

// rows are bytes of many lengths, the same in each run.
func rows(seed int64, n, longest int) [][]byte {
	from := rand.New(rand.NewSource(seed))
	var all [][]byte
	for range n {
		b := make([]byte, from.Intn(longest+1))
		from.Read(b)
		all = append(all, b)
	}
	return all
}

// P4.1: the known sums.
func TestKnownSums(t *testing.T) {
	for text, must := range known() {
		sumIs(t, []byte(text), must)
	}
}

// P4.1: of no bytes the sum is the beginning; nil and empty are one.
func TestSumOfNoBytes(t *testing.T) {
	sumIs(t, nil, 14695981039346656037)
	sumIs(t, []byte{}, 14695981039346656037)
	sumIs(t, make([]byte, 0, 8), 14695981039346656037)
}

// P4.1: the first of the chapter's examples.
func TestSumOfTwoBytes(t *testing.T) {
	sumIs(t, []byte("ab"), times(hash.Sum([]byte("a"))^98, 1099511628211))
}

// P4.1: every byte that there is, alone: none is taken for one with a sign.
func TestSumOfEachByte(t *testing.T) {
	for c := range 256 {
		sumIs(t, []byte{byte(c)}, times(beginning^uint64(c), prime))
	}
}

// P4.1: rows of bytes of all lengths, against a sum that does not wrap and the library's own.
func TestSumsOfRows(t *testing.T) {
	for _, b := range rows(1, 400, 300) {
		sumIs(t, b, goneOn(beginning, b))
		other := fnv.New64a()
		other.Write(b)
		sumIs(t, b, other.Sum64())
	}
	long := bytes.Repeat([]byte("granary\x00\xFF"), 1<<17)
	other := fnv.New64a()
	other.Write(long)
	if hash.Sum(long) != other.Sum64() {
		t.Error("the sum of many bytes is another")
	}
}

// P4.1: bytes count in their order, and those of zero count too.
func TestSumTellsRowsApart(t *testing.T) {
	seen := map[uint64]string{}
	for _, text := range []string{"", "\x00", "\x00\x00", "ab", "ba", "a\x00b", "ab\x00", "\x00ab", "a b", "A", "a", "\x80", "\xFF"} {
		sum := hash.Sum([]byte(text))
		if other, there := seen[sum]; there {
			t.Errorf("%q and %q have one sum", text, other)
		}
		seen[sum] = text
	}
}

// P4.6: a sum goes on over two rows of bytes, wherever they are cut.
func TestSumGoesOn(t *testing.T) {
	for _, b := range rows(2, 60, 40) {
		for cut := range len(b) + 1 {
			if hash.Sum(b) != goneOn(hash.Sum(b[:cut]), b[cut:]) {
				t.Errorf("%q, cut at %d, has another sum", b, cut)
			}
		}
	}
	first, second := []byte("bar"), []byte("ley")
	sumIs(t, slices.Concat(first, second), goneOn(hash.Sum(first), second))
}

// R2: the bytes handed in are not changed, those behind their end neither seen nor changed.
func TestSumLeavesBytes(t *testing.T) {
	whole := []byte("foobar and more")
	sumIs(t, whole[:6], 0x85944171F73967E8)
	if string(whole) != "foobar and more" {
		t.Errorf("Sum left %q", whole)
	}
	copy(whole[6:], "!!!!!!!!!")
	sumIs(t, whole[:6], 0x85944171F73967E8)
	whole[0] = 'g'
	if hash.Sum(whole[:6]) == 0x85944171F73967E8 {
		t.Error("the sum does not follow the bytes")
	}
}
