package class_test

import (
	"math/rand"
	"testing"

	"granary/api"
	"granary/class"
)

// model says P2.4 to P2.9 anew, plainly: everything by place.
type model struct {
	c          api.Config
	sizes      []int
	owner      []int
	rows       [][]int
	generation map[int]uint64
	taken      map[int]bool
}

func modelOf(c api.Config) *model {
	m := &model{c, sizesOf(c), make([]int, c.Pages), make([][]int, len(sizesOf(c))), map[int]uint64{}, map[int]bool{}}
	for i := range m.owner {
		m.owner[i] = -1
	}
	return m
}

func (m *model) freePages() (n int) {
	for _, c := range m.owner {
		if c == -1 {
			n++
		}
	}
	return n
}

func (m *model) handle(place int) api.Handle {
	return api.Handle(m.generation[place]*turn + uint64(place)/8 + 1)
}

func (m *model) take(c int) (api.Handle, api.Errno) {
	if c < 0 || c >= len(m.sizes) {
		return 0, api.ErrArg
	}
	for page := 0; len(m.rows[c]) == 0; page++ {
		if page == len(m.owner) {
			return 0, api.ErrRoom
		}
		if m.owner[page] != -1 {
			continue
		}
		m.owner[page] = c
		for at := 0; at+m.sizes[c] <= m.c.PageSize; at += m.sizes[c] {
			m.rows[c] = append([]int{page*m.c.PageSize + at}, m.rows[c]...)
		}
	}
	last := len(m.rows[c]) - 1
	place := m.rows[c][last]
	m.rows[c] = m.rows[c][:last]
	m.taken[place] = true
	return m.handle(place), api.OK
}

// find is the place of a good handle, -1 of another.
func (m *model) find(h api.Handle) int {
	for place := range m.taken {
		if m.handle(place) == h {
			return place
		}
	}
	return -1
}

func (m *model) give(h api.Handle) api.Errno {
	place := m.find(h)
	if place < 0 {
		return api.ErrHandle
	}
	c := m.owner[place/m.c.PageSize]
	delete(m.taken, place)
	m.generation[place] = (m.generation[place] + 1) % turn
	m.rows[c] = append(m.rows[c], place)
	return api.OK
}

func (m *model) takenOf(c int) (n int) {
	for place := range m.taken {
		if m.owner[place/m.c.PageSize] == c {
			n++
		}
	}
	return n
}

// same holds all that the set tells against the model.
func (m *model) same(t *testing.T, s *class.Set) {
	t.Helper()
	if s.FreePages() != m.freePages() {
		t.Fatal("FreePages:", s.FreePages())
	}
	held := make([]int, len(m.sizes)) // chunks of each class's pages
	for page, c := range m.owner {
		if s.Owner(page) != c {
			t.Fatalf("Owner(%d): %d, not %d", page, s.Owner(page), c)
		}
		if c >= 0 {
			held[c] += m.c.PageSize / m.sizes[c]
		}
	}
	for c, size := range m.sizes {
		taken := m.takenOf(c)
		if s.Taken(c) != taken || s.Free(c) != len(m.rows[c]) || s.Quota(c) != held[c]+m.freePages()*(m.c.PageSize/size) {
			t.Fatalf("class %d: %d taken, %d free, a quota of %d", c, s.Taken(c), s.Free(c), s.Quota(c))
		}
		if s.Taken(c)+s.Free(c) != held[c] {
			t.Fatalf("class %d: a chunk is neither taken nor free", c)
		}
	}
	m.samePlaces(t, s)
}

// samePlaces holds what the set tells of each place and handle against the model.
func (m *model) samePlaces(t *testing.T, s *class.Set) {
	t.Helper()
	for place := -8; place < m.c.Pages*m.c.PageSize+8; place += 8 {
		must := api.Handle(0)
		if m.taken[place] {
			must = m.handle(place)
		}
		if h, ok := s.Of(place); h != must || ok != m.taken[place] {
			t.Fatalf("Of(%d): %d, %v, not %d", place, h, ok, must)
		}
		if must == 0 {
			continue
		}
		if at, c, e := s.At(must); at != place || c != m.owner[place/m.c.PageSize] || e != api.OK {
			t.Fatalf("At(%d): %d, %d, %v", must, at, c, e)
		}
	}
}

// anyHandle is a good handle mostly, else one that was, will be or never is good.
func anyHandle(r *rand.Rand, seen []api.Handle) api.Handle {
	if len(seen) == 0 || r.Intn(10) == 0 {
		return api.Handle(r.Uint64() >> r.Intn(64))
	}
	h := seen[r.Intn(len(seen))]
	switch r.Intn(12) {
	case 0:
		return h + turn
	case 1:
		return h - turn
	case 2:
		return h + 1
	case 3:
		return h - 1
	}
	return h
}

// P2.4 to P2.9 and P2.11: over long rows of calls the set tells what the plain model tells.
func TestModel(t *testing.T) {
	for seed, c := range []api.Config{plain(), config(4096, 9, 150, 64, 512), config(8192, 4, 200, 512, 3000), config(4096, 4, 400, 72, 4096), config(4096, 2, 400, 64, 65)} {
		r := rand.New(rand.NewSource(int64(seed)))
		s, m := made(t, c), modelOf(c)
		var seen []api.Handle
		for step := range 4000 {
			if r.Intn(100) < 40+20*(step/500%2) { // it fills and empties by turns
				kind := r.Intn(len(m.sizes)+2) - 1
				must, me := m.take(kind)
				h, e := s.Take(kind)
				if h != must || e != me {
					t.Fatalf("Take(%d): %d, %v, not %d, %v", kind, h, e, must, me)
				}
				if e == api.OK {
					seen = append(seen, h)
				}
			} else {
				h := anyHandle(r, seen)
				must := m.give(h)
				if e := s.Give(h); e != must {
					t.Fatalf("Give(%d): %v, not %v", h, e, must)
				}
			}
			h := anyHandle(r, seen)
			if place, _, e := s.At(h); (e == api.OK) != (m.find(h) >= 0) || e == api.OK && place != m.find(h) {
				t.Fatalf("At(%d): %d, %v", h, place, e)
			}
			if step%10 == 0 {
				m.same(t, s)
			}
		}
		m.same(t, s)
	}
}

// P2.11: handles that are good at one time are of chunks that share no byte.
func TestNoByteIsShared(t *testing.T) {
	r := rand.New(rand.NewSource(7))
	c := config(4096, 9, 150, 64, 512)
	s := made(t, c)
	var good []api.Handle
	for range 40 {
		for range 30 {
			if h, e := s.Take(r.Intn(s.Classes())); e == api.OK {
				good = append(good, h)
			}
		}
		for range 10 {
			i := r.Intn(len(good))
			give(t, s, good[i])
			good = append(good[:i], good[i+1:]...)
		}
		var used [9 * 4096]bool
		for _, h := range good {
			place, kind, e := s.At(h)
			if e != api.OK {
				t.Fatalf("At(%d): %v", h, e)
			}
			for i := range s.Chunk(kind) {
				if used[place+i] {
					t.Fatalf("the byte at %d is of two chunks", place+i)
				}
				used[place+i] = true
			}
			if place/4096 != (place+s.Chunk(kind)-1)/4096 {
				t.Fatalf("chunk %d runs over its page's end", h)
			}
		}
	}
}

// R4: one row of calls is answered alike by two sets.
func TestAlike(t *testing.T) {
	answers := func() (all []api.Handle) {
		r := rand.New(rand.NewSource(3))
		s := made(t, config(4096, 9, 150, 64, 512))
		for range 3000 {
			h, _ := s.Take(r.Intn(s.Classes()))
			all = append(all, h)
			s.Give(all[r.Intn(len(all))])
		}
		return all
	}
	one, two := answers(), answers()
	for i, h := range one {
		if two[i] != h {
			t.Fatal("two sets answer one row unlike")
		}
	}
}
