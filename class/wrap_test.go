package class

import (
	"testing"

	"granary/api"
)

// P2.5 and P2.11: behind 2^32 Gives a chunk's generation is 0 again. So many can't be made in a test; the chunk is set just ahead of them.
func TestGenerationWraps(t *testing.T) {
	s, e := New(api.Config{PageSize: 4096, Pages: 3, Factor: 200, MinChunk: 64, ItemLimit: 256})
	if e != api.OK {
		t.Fatal(e)
	}
	first, _ := s.Take(1)
	s.Give(first)
	s.pages[0].chunks[0].generation = 1<<32 - 1
	last, e := s.Take(1)
	if last != (1<<32-1)<<32+1 || e != api.OK {
		t.Error("the last generation:", last, e)
	}
	if !s.Arena().Same(12, []byte{255, 255, 255, 255, 0}) {
		t.Error("the generation is not laid in the chunk")
	}
	if e := s.Give(last); e != api.OK {
		t.Error("Give:", e)
	}
	if _, _, e := s.At(first); e != api.ErrHandle {
		t.Error("a free chunk's handle is good")
	}
	if h, e := s.Take(1); h != first || e != api.OK {
		t.Error("the generation behind the last:", h, e)
	}
	if !s.Arena().Same(12, make([]byte, 4)) {
		t.Error("the generation 0 is not laid in the chunk")
	}
}
