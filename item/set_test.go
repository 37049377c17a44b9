package item_test

import (
	"bytes"
	"testing"

	"granary/api"
	"granary/class"
	"granary/item"
)

// plain is the Config of the chapter's runs: chunks of 64, 128 and 256 bytes.
func plain() api.Config {
	return api.Config{PageSize: 4096, Pages: 3, Factor: 200, MinChunk: 64, ItemLimit: 256}
}

func made(t *testing.T, c api.Config) *class.Set {
	t.Helper()
	s, e := class.New(c)
	if e != api.OK {
		t.Fatalf("class.New(%v): %v", c, e)
	}
	return s
}

// taken is a new chunk of a class. The bytes behind its head are no zeros, so that what is laid there shows.
func taken(t *testing.T, s *class.Set, c int) api.Handle {
	t.Helper()
	h, e := s.Take(c)
	if e != api.OK {
		t.Fatalf("Take(%d): %v", c, e)
	}
	place := placeOf(t, s, h)
	for i := api.Head; i < s.Chunk(c); i++ {
		s.Arena().Write(place+i, []byte{byte(i) | 0x80})
	}
	return h
}

func placeOf(t *testing.T, s *class.Set, h api.Handle) int {
	t.Helper()
	place, _, e := s.At(h)
	if e != api.OK {
		t.Fatalf("At(%d): %v", h, e)
	}
	return place
}

func give(t *testing.T, s *class.Set, h api.Handle) {
	t.Helper()
	if e := s.Give(h); e != api.OK {
		t.Fatalf("Give(%d): %v", h, e)
	}
}

func lay(t *testing.T, s *class.Set, h api.Handle, it api.Item) {
	t.Helper()
	if e := item.Lay(s, h, it); e != api.OK {
		t.Fatalf("Lay(%d, %v): %v", h, it, e)
	}
}

// image is every byte of the arena.
func image(t *testing.T, s *class.Set) []byte {
	t.Helper()
	var all []byte
	for i := range s.Arena().Pages() {
		p, e := s.Arena().Page(i)
		if e != api.OK {
			t.Fatalf("Page(%d): %v", i, e)
		}
		all = append(all, p...)
	}
	return all
}

// stands: is every byte of the arena what it was?
func stands(t *testing.T, s *class.Set, must []byte, what string) {
	t.Helper()
	now := image(t, s)
	for i := range must {
		if now[i] != must[i] {
			t.Fatalf("%s: the byte at %d is %d, not %d", what, i, now[i], must[i])
		}
	}
}

func is(t *testing.T, what string, got, must api.Errno) {
	t.Helper()
	if got != must {
		t.Errorf("%s: %v, not %v", what, got, must)
	}
}

// same: do two items tell the same? Nil and empty lists are one.
func same(a, b api.Item) bool {
	return bytes.Equal(a.Key, b.Key) && bytes.Equal(a.Value, b.Value) && a.Flags == b.Flags && a.Expiry == b.Expiry &&
		a.Touched == b.Touched && a.Token == b.Token && a.State == b.State && a.Marks == b.Marks
}

// tells: do Read and all that tell a part say that the chunk has this item?
func tells(t *testing.T, s *class.Set, h api.Handle, it api.Item) {
	t.Helper()
	if got, e := item.Read(s, h); e != api.OK || !same(got, it) {
		t.Errorf("Read: %v, %v, not %v", got, e, it)
	}
	if k, v, e := item.Lengths(s, h); e != api.OK || k != len(it.Key) || v != len(it.Value) {
		t.Errorf("Lengths: %d, %d, %v, not %d, %d", k, v, e, len(it.Key), len(it.Value))
	}
	told := map[string]uint64{"Flags": it.Flags, "Expiry": uint64(it.Expiry), "Touched": uint64(it.Touched), "Token": it.Token, "State": uint64(it.State), "Marks": uint64(it.Marks)}
	for name, f := range numbers() {
		if n, e := f(s, h); e != api.OK || n != told[name] {
			t.Errorf("%s: %d, %v, not %d", name, n, e, told[name])
		}
	}
	if item.Same(s, h, it.Key) != (len(it.Key) > 0) {
		t.Errorf("Same of the key %q: %v", it.Key, len(it.Key) == 0)
	}
}

// numbers are the calls that tell one number of an item.
func numbers() map[string]func(*class.Set, api.Handle) (uint64, api.Errno) {
	of := func(f func(*class.Set, api.Handle) (int, api.Errno)) func(*class.Set, api.Handle) (uint64, api.Errno) {
		return func(s *class.Set, h api.Handle) (uint64, api.Errno) {
			n, e := f(s, h)
			return uint64(n), e
		}
	}
	return map[string]func(*class.Set, api.Handle) (uint64, api.Errno){
		"Flags": item.Flags, "Token": item.Token,
		"Expiry": of(item.Expiry), "Touched": of(item.Touched), "State": of(item.State), "Marks": of(item.Marks),
	}
}

// links: do the three links lead there?
func links(t *testing.T, s *class.Set, h api.Handle, must ...api.Handle) {
	t.Helper()
	for which, to := range must {
		if got, e := item.Link(s, h, which); e != api.OK || got != to {
			t.Errorf("Link(%d, %d): %d, %v, not %d", h, which, got, e, to)
		}
	}
}
