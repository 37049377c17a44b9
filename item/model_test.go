package item_test

import (
	"math/rand"
	"testing"

	"granary/api"
	"granary/class"
	"granary/item"
)

// model says the chapter anew, plainly: what each taken chunk has, by its handle.
type model struct {
	chunks map[api.Handle]*thing
	order  []api.Handle
}

// thing is a taken chunk; bytes are all that it holds.
type thing struct {
	bytes []byte
	class int
	has   bool
	item  api.Item
	links [3]uint32
}

func numberOf(h api.Handle) uint32 { return uint32(h) }

// takenBy is the handle of the taken chunk of a number; 0, if there is none.
func (m *model) takenBy(number uint32) api.Handle {
	for h := range m.chunks {
		if numberOf(h) == number {
			return h
		}
	}
	return 0
}

// lay judges and does a Lay.
func (m *model) lay(h api.Handle, it api.Item) api.Errno {
	x := m.chunks[h]
	switch {
	case x == nil:
		return api.ErrHandle
	case !mayBeKey(it.Key):
		return api.ErrKey
	case 58+len(it.Key)+len(it.Value) > len(x.bytes):
		return api.ErrLong
	case it.State < 1 || it.State > 4 || it.Marks < 0 || it.Marks > 15 || it.Flags>>32 != 0 || it.Expiry < 0 || it.Touched < 0:
		return api.ErrArg
	}
	x.bytes, x.has, x.item, x.links = over(x.bytes, x.class, it), true, it, [3]uint32{}
	return api.OK
}

func mayBeKey(key []byte) bool {
	for _, b := range key {
		if b < 33 || b == 127 {
			return false
		}
	}
	return len(key) > 0 && len(key) <= 250
}

// change judges and does a Value or a Set function: the item with one field changed is laid anew, and the links put back.
func (m *model) change(h api.Handle, with func(it *api.Item)) api.Errno {
	x := m.chunks[h]
	switch {
	case x == nil:
		return api.ErrHandle
	case !x.has:
		return api.ErrKey
	}
	it, links := x.item, x.links
	with(&it)
	if e := m.lay(h, it); e != api.OK {
		return e
	}
	for which, n := range links {
		x.lead(which, n)
	}
	return api.OK
}

func (x *thing) lead(which int, number uint32) {
	x.links[which] = number
	lower(x.bytes[which*4:which*4+4], uint64(number))
}

func (m *model) setLink(h api.Handle, which int, to api.Handle) api.Errno {
	x := m.chunks[h]
	switch {
	case x == nil:
		return api.ErrHandle
	case !x.has:
		return api.ErrKey
	case which < 0 || which > 2:
		return api.ErrArg
	case to != 0 && m.chunks[to] == nil:
		return api.ErrHandle
	}
	x.lead(which, numberOf(to))
	return api.OK
}

func (m *model) link(h api.Handle, which int) (api.Handle, api.Errno) {
	x := m.chunks[h]
	switch {
	case x == nil:
		return 0, api.ErrHandle
	case which < 0 || which > 2:
		return 0, api.ErrArg
	case x.links[which] == 0:
		return 0, api.OK
	}
	if to := m.takenBy(x.links[which]); to != 0 {
		return to, api.OK
	}
	return 0, api.ErrHandle
}

// draw makes what a run is given: mostly right, sometimes wrong.
type draw struct{ *rand.Rand }

func (r draw) bytes(n int, of string) []byte {
	p := make([]byte, n)
	for i := range p {
		p[i] = of[r.Intn(len(of))]
	}
	return p
}

func (r draw) item() api.Item {
	it := api.Item{
		Key: r.bytes(1+r.Intn(9), "abk~!\xff"), Value: r.bytes(r.value(), "v\r\n\x00\xff"),
		Flags: uint64(r.Uint32()), Expiry: r.Intn(1 << 41), Touched: r.Intn(1 << 41), Token: r.Uint64(),
		State: 1 + r.Intn(4), Marks: r.Intn(16),
	}
	switch r.Intn(20) {
	case 0:
		it.Key = r.bytes(r.Intn(4), "a \x7f\x00")
	case 1:
		it.State = r.Intn(9) - 2
	case 2:
		it.Marks = r.Intn(40) - 10
	case 3:
		it.Flags = r.Uint64()
	case 4:
		it.Expiry -= 1 << 40
	case 5:
		it.Touched -= 1 << 40
	}
	return it
}

func (r draw) value() int {
	return []int{0, 1, r.Intn(6), r.Intn(70), r.Intn(200), r.Intn(300)}[r.Intn(6)]
}

func (r draw) which() int { return r.Intn(5) - 1 }

// handle is one that was taken, now or at some time, or no handle at all.
func (r draw) handle(m *model) api.Handle {
	if r.Intn(15) == 0 || len(m.order) == 0 {
		return api.Handle(r.Intn(1600))
	}
	if r.Intn(10) == 0 {
		return m.order[r.Intn(len(m.order))]
	}
	return m.order[len(m.order)-1-r.Intn(min(12, len(m.order)))]
}

// step does one thing to both, and holds what they answer against each other.
func step(t *testing.T, r draw, s *class.Set, m *model) {
	t.Helper()
	h := r.handle(m)
	it := r.item()
	switch r.Intn(12) {
	case 0:
		m.take(t, s, r.Intn(3))
	case 1:
		if r.Intn(3) == 0 && s.Give(h) == api.OK {
			delete(m.chunks, h)
		}
	case 2, 3:
		is(t, "Lay", item.Lay(s, h, it), m.lay(h, it))
	case 4:
		is(t, "Value", item.Value(s, h, it.Value), m.change(h, func(x *api.Item) { x.Value = it.Value }))
	case 5:
		is(t, "SetFlags", item.SetFlags(s, h, it.Flags), m.change(h, func(x *api.Item) { x.Flags = it.Flags }))
	case 6:
		is(t, "SetExpiry", item.SetExpiry(s, h, it.Expiry), m.change(h, func(x *api.Item) { x.Expiry = it.Expiry }))
	case 7:
		is(t, "SetTouched", item.SetTouched(s, h, it.Touched), m.change(h, func(x *api.Item) { x.Touched = it.Touched }))
	case 8:
		is(t, "SetToken", item.SetToken(s, h, it.Token), m.change(h, func(x *api.Item) { x.Token = it.Token }))
	case 9:
		is(t, "SetState", item.SetState(s, h, it.State), m.change(h, func(x *api.Item) { x.State = it.State }))
	case 10:
		is(t, "SetMarks", item.SetMarks(s, h, it.Marks), m.change(h, func(x *api.Item) { x.Marks = it.Marks }))
	default:
		which, to := r.which(), r.handle(m)
		if r.Intn(4) == 0 {
			to = 0
		}
		is(t, "SetLink", item.SetLink(s, h, which, to), m.setLink(h, which, to))
	}
}

// take lets class hand a chunk out: what it holds behind its head then is not said, so it is read.
func (m *model) take(t *testing.T, s *class.Set, c int) {
	t.Helper()
	h, e := s.Take(c)
	if e != api.OK {
		return
	}
	all, _ := s.Arena().Read(placeOf(t, s, h), s.Chunk(c))
	m.chunks[h] = &thing{bytes: all, class: c}
	m.order = append(m.order, h)
}

// agree: do both tell the same of every handle that there was, and does each taken chunk hold just the bytes that it must?
func agree(t *testing.T, s *class.Set, m *model) {
	t.Helper()
	for _, h := range m.order {
		x := m.chunks[h]
		for which := -1; which <= 3; which++ {
			to, e := item.Link(s, h, which)
			mustTo, mustE := m.link(h, which)
			if to != mustTo || e != mustE {
				t.Fatalf("Link(%d, %d): %d, %v, not %d, %v", h, which, to, e, mustTo, mustE)
			}
		}
		if x == nil {
			_, e := item.Read(s, h)
			is(t, "Read of a handle that was given", e, api.ErrHandle)
			continue
		}
		tells(t, s, h, x.item)
		if !s.Arena().Same(placeOf(t, s, h), x.bytes) {
			t.Fatalf("the chunk of %d holds other bytes than it must", h)
		}
	}
}

// P3.2 to P3.8: any run of calls answers what the chapter says, and leaves each chunk's bytes as it says.
func TestAgainstModel(t *testing.T) {
	for seed := range int64(40) {
		r := draw{rand.New(rand.NewSource(seed))}
		s := made(t, plain())
		m := &model{chunks: map[api.Handle]*thing{}}
		for i := range 600 {
			step(t, r, s, m)
			if i%20 == 0 {
				agree(t, s, m)
			}
			if t.Failed() {
				t.Fatalf("seed %d, step %d", seed, i)
			}
		}
		agree(t, s, m)
	}
}
