package item_test

import (
	"bytes"
	"math"
	"testing"

	"granary/api"
	"granary/class"
	"granary/item"
)

// lower lays the lowest bytes of a number over all of a list, the highest one first.
func lower(to []byte, n uint64) {
	for i := range to {
		to[i] = byte(n >> (8 * (len(to) - 1 - i)))
	}
}

// over says the chapter's table anew: what a chunk that held these bytes holds behind a Lay.
func over(chunk []byte, c int, it api.Item) []byte {
	all := bytes.Clone(chunk)
	clear(all[0:12])
	lower(all[16:24], uint64(it.Expiry))
	lower(all[24:32], uint64(it.Touched))
	lower(all[32:40], it.Token)
	lower(all[40:44], it.Flags)
	all[44], all[45], all[46], all[47] = byte(len(it.Key)), byte(it.State), byte(it.Marks), byte(c)
	lower(all[48:52], uint64(len(it.Value)))
	clear(all[52:56])
	n := 56 + copy(all[56:], it.Key)
	n += copy(all[n:], it.Value)
	all[n], all[n+1] = 13, 10
	return all
}

// crowd is a Set with chunks of all classes taken, the last of them by their second generation, and each with noise in it.
func crowd(t *testing.T) (*class.Set, []api.Handle) {
	t.Helper()
	s := made(t, plain())
	var all []api.Handle
	for c := range s.Classes() {
		for range 3 {
			all = append(all, taken(t, s, c))
		}
		give(t, s, all[len(all)-1])
		all[len(all)-1] = taken(t, s, c)
	}
	for i, h := range all {
		s.Arena().Fill(placeOf(t, s, h), 12, byte(i+1))
		s.Arena().Fill(placeOf(t, s, h)+16, 40, byte(i+1))
	}
	return s, all
}

// full is an item that has another byte in each place, of a chunk's bytes in all if n is 0, else of so many less.
func full(bytesOfChunk, n int) api.Item {
	value := make([]byte, bytesOfChunk-58-3-n)
	for i := range value {
		value[i] = byte(200 + i)
	}
	return api.Item{Key: []byte("~k!"), Value: value, Flags: 0xa1a2a3a4, Expiry: 0x0102030405060708, Touched: 0x1112131415161718, Token: 0x2122232425262728, State: api.None, Marks: 10}
}

// P3.3, P3.8: Lay lays the table's bytes, whatever stood there, and no other.
func TestLayBytes(t *testing.T) {
	s, all := crowd(t)
	for _, h := range all {
		place, c, _ := s.At(h)
		n := s.Chunk(c)
		for _, it := range []api.Item{full(n, 0), full(n, 1), full(n, 3), {Key: []byte("k"), State: api.Hot}} {
			must := image(t, s)
			copy(must[place:], over(must[place:place+n], c, it))
			lay(t, s, h, it)
			stands(t, s, must, "Lay")
			tells(t, s, h, it)
		}
	}
}

// P3.3: a key of each length lies where the table has it, of any bytes that it may have.
func TestLayLongKeys(t *testing.T) {
	s := made(t, api.Config{PageSize: 4096, Pages: 4, Factor: 400, MinChunk: 512, ItemLimit: 4096})
	h := taken(t, s, 2)
	for n := 1; n <= 250; n++ {
		it := api.Item{State: api.Cold, Value: bytes.Repeat([]byte{0, 13, 10, 255}, n)}
		for i := range n {
			it.Key = append(it.Key, []byte{'!', '~', 128, 255, 'k'}[(i+n)%5])
		}
		must := image(t, s)
		copy(must, over(must[:4096], 2, it))
		lay(t, s, h, it)
		stands(t, s, must, "Lay")
		tells(t, s, h, it)
	}
}

// P3.3: a value's length takes four bytes, a class its own.
func TestLayLongValue(t *testing.T) {
	c := api.Config{PageSize: 1 << 20, Pages: 62, Factor: 119, MinChunk: 64, ItemLimit: 1 << 20}
	s := made(t, c)
	last := s.Classes() - 1
	h, e := s.Take(last)
	if e != api.OK || last < 50 {
		t.Fatalf("Take(%d): %v", last, e)
	}
	for _, n := range []int{1<<20 - 59, 1<<16 + 3, 1 << 16, 256} {
		it := api.Item{Key: []byte("k"), Value: bytes.Repeat([]byte("longvalue"), n/9+1)[:n], State: api.Hot}
		before, _ := s.Arena().Read(0, 1<<20)
		lay(t, s, h, it)
		now, _ := s.Arena().Read(0, 1<<20)
		if !bytes.Equal(now, over(before, last, it)) {
			t.Errorf("a value of %d bytes in class %d: the bytes are other ones", n, last)
		}
		tells(t, s, h, it)
	}
	is(t, "a byte too long", item.Value(s, h, make([]byte, 1<<20-58)), api.ErrLong)
}

// P3.5, P3.8: Value lays the value, its length and its end.
func TestValueBytes(t *testing.T) {
	s, all := crowd(t)
	for _, h := range all {
		place, c, _ := s.At(h)
		it := full(s.Chunk(c), 0)
		lay(t, s, h, it)
		for which := range 3 {
			is(t, "SetLink", item.SetLink(s, h, which, all[which]), api.OK)
		}
		room := s.Chunk(c) - 58 - 3
		for _, n := range []int{0, 1, room, room / 2, 2} {
			must := image(t, s)
			value := bytes.Repeat([]byte{byte(n), 'v'}, n)[:n]
			lower(must[place+48:place+52], uint64(n))
			copy(must[place+59:], value)
			copy(must[place+59+n:], "\r\n")
			is(t, "Value", item.Value(s, h, value), api.OK)
			stands(t, s, must, "Value")
			it.Value = value
			tells(t, s, h, it)
			links(t, s, h, all[:3]...)
		}
	}
}

// P3.6, P3.8: a Set function lays its field alone.
func TestSetBytes(t *testing.T) {
	s, all := crowd(t)
	for _, h := range all {
		place, c, _ := s.At(h)
		lay(t, s, h, full(s.Chunk(c), 2))
		after := func(what string, from, to int, n uint64, set func() api.Errno) {
			t.Helper()
			must := image(t, s)
			lower(must[place+from:place+to], n)
			is(t, what, set(), api.OK)
			stands(t, s, must, what)
		}
		for _, n := range []uint64{0, 1, 0x3132333435363738, math.MaxInt64} {
			after("SetExpiry", 16, 24, n, func() api.Errno { return item.SetExpiry(s, h, int(n)) })
			after("SetTouched", 24, 32, n, func() api.Errno { return item.SetTouched(s, h, int(n)) })
			after("SetToken", 32, 40, n, func() api.Errno { return item.SetToken(s, h, n) })
		}
		after("SetToken", 32, 40, math.MaxUint64, func() api.Errno { return item.SetToken(s, h, math.MaxUint64) })
		for _, n := range []uint64{0, 1, 0x41424344, 1<<32 - 1} {
			after("SetFlags", 40, 44, n, func() api.Errno { return item.SetFlags(s, h, n) })
		}
		for n := 1; n <= 4; n++ {
			after("SetState", 45, 46, uint64(n), func() api.Errno { return item.SetState(s, h, n) })
		}
		for n := range 16 {
			after("SetMarks", 46, 47, uint64(n), func() api.Errno { return item.SetMarks(s, h, n) })
		}
	}
}

// P3.7, P3.8: SetLink lays a chunk's number, 0 for none, into its four bytes alone; the other links stand.
func TestSetLinkBytes(t *testing.T) {
	s, all := crowd(t)
	for i, h := range all {
		place, c, _ := s.At(h)
		lay(t, s, h, full(s.Chunk(c), 2))
		must := []api.Handle{0, 0, 0}
		for j := range 12 {
			to := append(all, 0)[(i*5+j*7)%(len(all)+1)]
			bytesNow := image(t, s)
			number := uint64(0)
			if to != 0 {
				number = uint64(placeOf(t, s, to))/8 + 1
			}
			lower(bytesNow[place+j%3*4:place+j%3*4+4], number)
			is(t, "SetLink", item.SetLink(s, h, j%3, to), api.OK)
			stands(t, s, bytesNow, "SetLink")
			must[j%3] = to
			links(t, s, h, must...)
		}
	}
}

// P3.7: a link to a chunk far behind takes all four bytes of its number.
func TestLinkFar(t *testing.T) {
	s := made(t, api.Config{PageSize: 1 << 20, Pages: 129, Factor: 400, MinChunk: 512, ItemLimit: 1 << 20})
	h, _ := s.Take(0)
	lay(t, s, h, api.Item{Key: []byte("k"), State: api.Hot})
	var far api.Handle
	for range 128 {
		far, _ = s.Take(s.Classes() - 1)
	}
	if far != 1<<24+1 {
		t.Fatalf("the last page's chunk is %d", far)
	}
	is(t, "SetLink", item.SetLink(s, h, 2, far), api.OK)
	links(t, s, h, 0, 0, far)
	if p, _ := s.Arena().Read(8, 4); !bytes.Equal(p, []byte{1, 0, 0, 1}) {
		t.Errorf("link 2 is %v", p)
	}
}

// P3.7: a link leads to whoever has the chunk now, of whatever generation, and h's own generation stands.
func TestLinkFollowsTheChunk(t *testing.T) {
	s := made(t, plain())
	h, to := taken(t, s, 1), taken(t, s, 2)
	lay(t, s, h, api.Item{Key: []byte("a"), State: api.Hot})
	is(t, "SetLink", item.SetLink(s, h, 1, to), api.OK)
	for range 300 {
		give(t, s, to)
		if got, e := item.Link(s, h, 1); got != 0 || e != api.ErrHandle {
			t.Fatalf("Link to a chunk that is not taken: %d, %v", got, e)
		}
		links(t, s, h, 0)
		to = taken(t, s, 2)
		links(t, s, h, 0, to, 0)
	}
}

// P3.8: those that tell change nothing.
func TestTellingChangesNothing(t *testing.T) {
	s, all := crowd(t)
	for i, h := range all {
		_, c, _ := s.At(h)
		lay(t, s, h, full(s.Chunk(c), i%3))
		item.SetLink(s, h, i%3, all[0])
	}
	must := image(t, s)
	for _, h := range all {
		for _, x := range telling() {
			x.run(s, h)
		}
		item.Same(s, h, []byte("~k!"))
		item.Same(s, h, []byte("other"))
	}
	stands(t, s, must, "telling")
}

// P3.4: Same holds the whole key against the whole key.
func TestSame(t *testing.T) {
	s := made(t, plain())
	h := taken(t, s, 1)
	lay(t, s, h, api.Item{Key: []byte("grain"), Value: []byte("ery"), State: api.Hot})
	for _, other := range []string{"", "g", "grai", "graim", "Grain", "rain", "grainery", "graine", "grain\r\n", "grain\x00"} {
		if item.Same(s, h, []byte(other)) {
			t.Errorf("the key grain is %q", other)
		}
	}
	if item.Same(s, h, nil) || item.Same(s, h, make([]byte, 5000)) {
		t.Error("the key grain is nil, or longer than a page")
	}
	if !item.Same(s, h, []byte("grain")) {
		t.Error("the key grain is another one")
	}
	is(t, "Lay", item.Lay(s, h, api.Item{Key: []byte("oat"), State: api.Hot}), api.OK)
	if item.Same(s, h, []byte("grain")) || !item.Same(s, h, []byte("oat")) {
		t.Error("behind another Lay the chunk has the old key")
	}
}
