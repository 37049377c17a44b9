package queue_test

import (
	"math/rand"
	"slices"
	"testing"

	"granary/api"
	"granary/item"
)

// name is that of a list.
type name struct{ class, kind int }

// model says the chapter anew, plainly: rows of handles, and which class each item is of.
type model struct {
	class map[api.Handle]int // of every chunk that has an item
	rows  map[name][]api.Handle
}

// where is the list in which an item stands.
func (m *model) where(h api.Handle) (name, bool) {
	for n, row := range m.rows {
		if slices.Contains(row, h) {
			return n, true
		}
	}
	return name{}, false
}

func (m *model) enter(h api.Handle, kind int, last bool) api.Errno {
	if kind < 1 || kind > 3 {
		return api.ErrArg
	}
	c, laid := m.class[h]
	if !laid {
		return api.ErrHandle
	}
	if _, in := m.where(h); in {
		return api.ErrTwice
	}
	n, at := name{c, kind}, 0
	if last {
		at = len(m.rows[n])
	}
	m.rows[n] = slices.Insert(m.rows[n], at, h)
	return api.OK
}

func (m *model) drop(h api.Handle) api.Errno {
	n, in := m.where(h)
	if !in {
		return api.ErrHandle
	}
	m.rows[n] = slices.DeleteFunc(m.rows[n], func(k api.Handle) bool { return k == h })
	return api.OK
}

func (m *model) shift(h api.Handle, kind int) api.Errno {
	if kind < 1 || kind > 3 {
		return api.ErrArg
	}
	if e := m.drop(h); e != api.OK {
		return e
	}
	return m.enter(h, kind, false)
}

// run is a world beside its model, and a source of what is done to both.
type run struct {
	*world
	*rand.Rand
	m    *model
	seen []api.Handle // every handle that there was
}

func runOf(t *testing.T, seed int64) *run {
	t.Helper()
	return &run{begun(t, plain()), rand.New(rand.NewSource(seed)), &model{map[api.Handle]int{}, map[name][]api.Handle{}}, nil}
}

// any is one of the handles that there were, the latest ones more often, or none at all.
func (r *run) any() api.Handle {
	if len(r.seen) == 0 || r.Intn(20) == 0 {
		return api.Handle(r.Uint64() >> r.Intn(64))
	}
	return r.seen[len(r.seen)-1-r.Intn(min(1+r.Intn(60), len(r.seen)))]
}

// anyKind is mostly a list's.
func (r *run) anyKind() int {
	if r.Intn(10) == 0 {
		return r.Intn(9) - 3
	}
	return 1 + r.Intn(3)
}

// lays takes a chunk, where there is one, and lays an item into it.
func (r *run) lays() {
	c := r.Intn(classes)
	h, e := r.set.Take(c)
	if e != api.OK {
		return
	}
	r.is("item.Lay", item.Lay(r.set, h, api.Item{Key: []byte("k"), State: api.None}), api.OK)
	r.m.class[h] = c
	r.seen = append(r.seen, h)
}

// gives gives the chunk of an item that stands nowhere.
func (r *run) gives(h api.Handle) {
	_, laid := r.m.class[h]
	if _, in := r.m.where(h); in || !laid {
		return
	}
	r.is("class.Give", r.set.Give(h), api.OK)
	delete(r.m.class, h)
}

// touches does with any item what is not this layer's.
func (r *run) touches(h api.Handle) {
	item.SetLink(r.set, h, 0, r.any())
	item.SetMarks(r.set, h, r.Intn(16))
	item.SetToken(r.set, h, r.Uint64())
	item.Value(r.set, h, make([]byte, r.Intn(5)))
}

// act does one thing to both, and holds what they answer against each other.
func (r *run) act() {
	r.Helper()
	h, kind := r.any(), r.anyKind()
	switch r.Intn(12) {
	case 0, 1:
		r.lays()
	case 2:
		r.gives(h)
	case 3:
		r.touches(h)
	case 4, 5, 6:
		r.is("Push", r.queue.Push(h, kind), r.m.enter(h, kind, false))
	case 7, 8:
		r.is("Last", r.queue.Last(h, kind), r.m.enter(h, kind, true))
	case 9:
		r.is("Drop", r.queue.Drop(h), r.m.drop(h))
	default:
		r.is("Shift", r.queue.Shift(h, kind), r.m.shift(h, kind))
	}
}

// compare holds everything that is told against the model.
func (r *run) compare() {
	r.Helper()
	for c := -1; c <= classes; c++ {
		for kind := -1; kind <= 5; kind++ {
			r.holds(c, kind, r.m.rows[name{c, kind}]...)
		}
	}
	for h := range r.m.class {
		if _, in := r.m.where(h); !in {
			r.nowhere(h)
		}
	}
}

// P6.2 to P6.7, P6.9: whatever is called, the lists are those of the plain rows.
func TestAgainstModel(t *testing.T) {
	for seed := range int64(40) {
		r := runOf(t, seed)
		for i := range 1500 {
			r.act()
			if i%10 == 0 {
				r.compare()
			}
			if t.Failed() {
				t.Fatalf("seed %d, act %d", seed, i)
			}
		}
	}
}

// R4: the same calls are answered alike, whenever they come.
func TestAlike(t *testing.T) {
	one, two := runOf(t, 7), runOf(t, 7)
	for range 800 {
		one.act()
		two.act()
	}
	if !slices.EqualFunc(one.lists(), two.lists(), slices.Equal) || !slices.Equal(one.image(), two.image()) {
		t.Error("two runs of the same calls differ")
	}
}
