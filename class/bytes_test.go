package class_test

import (
	"bytes"
	"math/rand"
	"testing"

	"granary/api"
	"granary/arena"
	"granary/class"
)

func read(t *testing.T, s *class.Set, at, n int) []byte {
	t.Helper()
	p, e := s.Arena().Read(at, n)
	if e != api.OK {
		t.Fatalf("Read(%d, %d): %v", at, n, e)
	}
	return p
}

// lay fills all bytes of a taken chunk that others may lay.
func lay(t *testing.T, s *class.Set, h api.Handle, b byte) {
	t.Helper()
	place, c, e := s.At(h)
	if e != api.OK {
		t.Fatalf("At(%d): %v", h, e)
	}
	s.Arena().Fill(place, 12, b)
	s.Arena().Fill(place+16, s.Chunk(c)-16, b)
}

// headOf is what Take lays.
func headOf(generation uint32) []byte {
	head := make([]byte, 56)
	for i := range 4 {
		head[12+i] = byte(generation >> (24 - 8*i))
	}
	return head
}

// P2.6: the first 56 bytes are laid, whatever the chunk held; its generation stands in the bytes 12 to 15.
func TestHead(t *testing.T) {
	s := made(t, plain())
	for g := range uint32(600) {
		h, _ := s.Take(1)
		if !bytes.Equal(read(t, s, 0, 56), headOf(g)) {
			t.Fatalf("generation %d: the head is %v", g, read(t, s, 0, 56))
		}
		lay(t, s, h, 0xee)
		s.Give(h)
	}
	if n, e := arena.Get[uint32](s.Arena(), 12); e != api.OK {
		t.Error("Get of the generation:", n, e)
	}
}

// P2.10: of a taken chunk a Take lays just the first 56 bytes, and never a byte of its neighbours.
func TestOnlyTheHeadIsLaid(t *testing.T) {
	for kind := range 3 {
		s := made(t, plain())
		size := s.Chunk(kind)
		var hs []api.Handle
		for i := range 4 {
			h, _ := s.Take(kind)
			lay(t, s, h, byte(i+1))
			hs = append(hs, h)
		}
		must := read(t, s, 0, 4096)
		s.Give(hs[1])
		s.Take(kind)
		copy(must[size:], headOf(1))
		got := read(t, s, 0, 4096)
		if !bytes.Equal(got[:size+56], must[:size+56]) || !bytes.Equal(got[2*size:4*size], must[2*size:4*size]) {
			t.Errorf("class %d: a taken chunk's bytes are others", kind)
		}
	}
}

// keeper holds what the bytes of taken chunks and of pages' ends must be.
type keeper struct {
	s      *class.Set
	laid   map[api.Handle][]byte
	order  []api.Handle
	behind map[int][]byte
}

// took notes a chunk that was just taken, and the end of its page.
func (k *keeper) took(t *testing.T, h api.Handle, b byte) {
	lay(t, k.s, h, b)
	place, c, _ := k.s.At(h)
	size := k.s.Chunk(c)
	k.laid[h] = read(t, k.s, place, size)
	k.order = append(k.order, h)
	page := place / 4096
	if end := 4096 / size * size; k.behind[page] == nil && end < 4096 {
		k.behind[page] = read(t, k.s, page*4096+end, 4096-end)
	}
}

func (k *keeper) gave(i int) {
	delete(k.laid, k.order[i])
	k.order[i] = k.order[len(k.order)-1]
	k.order = k.order[:len(k.order)-1]
}

func (k *keeper) check(t *testing.T) {
	t.Helper()
	for h, must := range k.laid {
		if place, _, e := k.s.At(h); e != api.OK || !bytes.Equal(read(t, k.s, place, len(must)), must) {
			t.Fatalf("the bytes of chunk %d are others than were laid: %v", h, e)
		}
	}
	for page, must := range k.behind {
		if !bytes.Equal(read(t, k.s, (page+1)*4096-len(must), len(must)), must) {
			t.Fatalf("the bytes behind the last chunk of page %d were changed", page)
		}
	}
}

// P2.10: over a long row of calls, refused ones too, taken chunks and pages' ends keep their bytes.
func TestBytesStay(t *testing.T) {
	for seed := range int64(3) {
		r := rand.New(rand.NewSource(seed))
		s := made(t, config(4096, 9, 150, 64, 512))
		k := &keeper{s, map[api.Handle][]byte{}, nil, map[int][]byte{}}
		for range 3000 {
			switch i := r.Intn(len(k.order) + 1); {
			case r.Intn(2) == 0 && i < len(k.order):
				if e := s.Give(k.order[i]); e != api.OK {
					t.Fatal("Give:", e)
				}
				k.gave(i)
			case r.Intn(9) == 0:
				s.Give(api.Handle(r.Intn(4608)))
				s.Take(-1)
				s.For(r.Intn(600))
				s.Of(r.Intn(9 * 4096))
				for i := len(k.order) - 1; i >= 0; i-- { // the Give may have met one
					if _, _, e := s.At(k.order[i]); e != api.OK {
						k.gave(i)
					}
				}
			default:
				if h, e := s.Take(r.Intn(s.Classes())); e == api.OK {
					k.took(t, h, byte(r.Intn(256)))
				}
			}
			k.check(t)
		}
	}
}

// P2.10 and R1: whatever is laid where it may not be, each call ends, and none panics.
func TestWrongBytes(t *testing.T) {
	for seed := range int64(20) {
		r := rand.New(rand.NewSource(seed))
		s := made(t, config(4096, 9, 150, 64, 512))
		var hs []api.Handle
		for range 2000 {
			junk := make([]byte, r.Intn(300))
			r.Read(junk)
			s.Arena().Write(r.Intn(9*4096), junk)
			s.Arena().Fill(4096*r.Intn(9), 4096, byte(r.Intn(3)*255/2))
			h, _ := s.Take(r.Intn(9) - 1)
			hs = append(hs, h)
			h = hs[r.Intn(len(hs))]
			place, _, _ := s.At(h)
			s.Of(place)
			s.Of(r.Intn(9 * 4096))
			s.Give(h)
			s.Give(api.Handle(r.Uint64()))
			s.At(api.Handle(r.Uint64()))
			for c := -1; c < 9; c++ {
				s.Quota(c)
				s.Free(c)
				s.Taken(c)
			}
		}
	}
}
