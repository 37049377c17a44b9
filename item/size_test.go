package item_test

import (
	"bytes"
	"math"
	"testing"

	"granary/api"
	"granary/item"
)

// P3.1: the key's length is judged first, then the value's.
func TestSize(t *testing.T) {
	keys := []int{math.MinInt, -1, 0, 1, 2, 100, 249, 250, 251, 256, 257, math.MaxInt}
	values := []int{math.MinInt, -1, 0, 1, 2, 255, 256, 65536, 1<<20 - 1, 1 << 20, 1<<20 + 1, 1 << 31, math.MaxInt}
	for _, key := range keys {
		for _, value := range values {
			n, e := item.Size(key, value)
			switch {
			case key < 1 || key > 250:
				if n != 0 || e != api.ErrKey {
					t.Errorf("Size(%d, %d): %d, %v, not ErrKey", key, value, n, e)
				}
			case value < 0 || value > 1<<20:
				if n != 0 || e != api.ErrLong {
					t.Errorf("Size(%d, %d): %d, %v, not ErrLong", key, value, n, e)
				}
			case n != 58+key+value || e != api.OK:
				t.Errorf("Size(%d, %d): %d, %v", key, value, n, e)
			}
		}
	}
}

// P3.1: what Size tells of an item is the least chunk that takes it.
func TestSizeIsWhatLayNeeds(t *testing.T) {
	s := made(t, plain())
	for c := range s.Classes() {
		h := taken(t, s, c)
		for key := 1; key <= 250; key++ {
			for value := range 260 {
				n, _ := item.Size(key, value)
				must := api.OK
				if n > s.Chunk(c) {
					must = api.ErrLong
				}
				it := api.Item{Key: bytes.Repeat([]byte("k"), key), Value: make([]byte, value), State: api.Hot}
				if e := item.Lay(s, h, it); e != must {
					t.Fatalf("Lay of %d and %d bytes into %d: %v, not %v", key, value, s.Chunk(c), e, must)
				}
			}
		}
	}
}

// P3.1: one wrong byte anywhere makes a key that is none.
func TestLegalBytes(t *testing.T) {
	for b := range 256 {
		must := b > 32 && b != 127
		for _, n := range []int{1, 2, 9, 250} {
			for _, at := range []int{0, n / 2, n - 1} {
				key := bytes.Repeat([]byte("k"), n)
				key[at] = byte(b)
				if item.Legal(key) != must {
					t.Errorf("the byte %d at %d of %d: Legal is %v", b, at, n, !must)
				}
			}
		}
	}
}

// P3.1: 1 to 250 bytes.
func TestLegalLengths(t *testing.T) {
	for n := range 600 {
		if must := n >= 1 && n <= 250; item.Legal(bytes.Repeat([]byte("k"), n)) != must {
			t.Errorf("a key of %d bytes: Legal is %v", n, !must)
		}
	}
	if item.Legal(nil) {
		t.Error("nil is a key")
	}
	if !item.Legal([]byte("höhe\xff\x80!~")) {
		t.Error("bytes above 127 are none of a key")
	}
}
