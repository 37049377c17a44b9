package lru_test

import (
	"bytes"
	"math/rand"
	"slices"
	"testing"

	"granary/api"
	"granary/item"
)

// The places of what is this layer's within a chunk.
const (
	aheadAt  = 4
	behindAt = 8
	stateAt  = 45
	marksAt  = 46
)

// model says the chapter anew, plainly: of each class three rows from head to tail, and who is active.
type model struct {
	class     map[api.Handle]int // of every item
	queues    [classes][4][]api.Handle
	active    map[api.Handle]bool
	marks     map[api.Handle]int // the other marks
	hot, warm int
}

// where is the class and the kind of the queue in which an item stands.
func (m *model) where(h api.Handle) (c, kind int, in bool) {
	for c := range classes {
		for kind := range 4 {
			if slices.Contains(m.queues[c][kind], h) {
				return c, kind, true
			}
		}
	}
	return 0, 0, false
}

func (m *model) enter(h api.Handle) api.Errno {
	c, laid := m.class[h]
	if !laid {
		return api.ErrHandle
	}
	if _, _, in := m.where(h); in {
		return api.ErrTwice
	}
	m.push(h, c, api.Hot)
	return api.OK
}

func (m *model) push(h api.Handle, c, kind int) {
	m.queues[c][kind] = slices.Insert(m.queues[c][kind], 0, h)
	m.active[h] = false
}

func (m *model) leave(h api.Handle) api.Errno {
	c, kind, in := m.where(h)
	if !in {
		return api.ErrHandle
	}
	m.queues[c][kind] = slices.DeleteFunc(m.queues[c][kind], func(k api.Handle) bool { return k == h })
	return api.OK
}

func (m *model) hit(h api.Handle) api.Errno {
	if _, _, in := m.where(h); !in {
		return api.ErrHandle
	}
	m.active[h] = true
	return api.OK
}

// due is the next step's item and the queue that it goes to.
func (m *model) due(c int) (h api.Handle, to int) {
	q := m.queues[c]
	n := len(q[api.Hot]) + len(q[api.Warm]) + len(q[api.Cold])
	tail := func(kind int) api.Handle { return q[kind][len(q[kind])-1] }
	over := func(kind, share int) bool { return 100*len(q[kind]) > n*share }
	switch {
	case over(api.Hot, m.hot):
		h = tail(api.Hot)
	case over(api.Warm, m.warm):
		h = tail(api.Warm)
	case len(q[api.Cold]) > 0 && m.active[tail(api.Cold)]:
		h = tail(api.Cold)
	}
	if m.active[h] {
		return h, api.Warm
	}
	return h, api.Cold
}

func (m *model) balance(c, links int) (moved []api.Handle) {
	for c >= 0 && c < classes && len(moved) < links {
		h, to := m.due(c)
		if h == 0 {
			break
		}
		m.leave(h)
		m.push(h, c, to)
		moved = append(moved, h)
	}
	return moved
}

func (m *model) row(c int) []api.Handle {
	if c < 0 || c >= classes {
		return nil
	}
	q := m.queues[c]
	return slices.Concat(backward(q[api.Cold]), backward(q[api.Warm]), backward(q[api.Hot]))
}

func (m *model) pick(c int, own api.Handle, looks int, dead func(api.Handle) bool) (h api.Handle, isDead bool, looked int) {
	row := slices.DeleteFunc(m.row(c), func(h api.Handle) bool { return h == own })
	row = row[:max(min(looks, len(row)), 0)]
	if i := slices.IndexFunc(row, dead); i >= 0 {
		return row[i], true, i + 1
	}
	if len(row) == 0 {
		return 0, false, 0
	}
	if i := slices.IndexFunc(row, func(h api.Handle) bool { return !m.active[h] }); i >= 0 {
		return row[i], false, len(row)
	}
	return row[0], false, len(row)
}

// run is a world beside its model, and a source of what is done to both.
type run struct {
	*world
	*rand.Rand
	m    *model
	seen []api.Handle // every handle that there was
}

func runOf(t *testing.T, seed int64) *run {
	t.Helper()
	r := rand.New(rand.NewSource(seed))
	hot := 1 + r.Intn(89)
	warm := 1 + r.Intn(90-hot)
	m := &model{class: map[api.Handle]int{}, active: map[api.Handle]bool{}, marks: map[api.Handle]int{}, hot: hot, warm: warm}
	return &run{begun(t, hot, warm), r, m, nil}
}

// any is one of the handles that there were, the latest ones more often, or none at all.
func (r *run) any() api.Handle {
	if len(r.seen) == 0 || r.Intn(20) == 0 {
		return api.Handle(r.Uint64() >> r.Intn(64))
	}
	return r.seen[len(r.seen)-1-r.Intn(min(1+r.Intn(60), len(r.seen)))]
}

// lays takes a chunk, where there is one, and lays an item into it.
func (r *run) lays() {
	c, marks := r.Intn(classes), r.Intn(16)
	h, e := r.set.Take(c)
	if e != api.OK {
		return
	}
	r.is("item.Lay", item.Lay(r.set, h, api.Item{Key: []byte("k"), Value: []byte("v"), Flags: 9, Expiry: 8, Touched: 7, Token: 6, State: api.None, Marks: marks}), api.OK)
	r.m.class[h], r.m.marks[h], r.m.active[h] = c, marks&^api.MarkActive, marks&api.MarkActive != 0
	r.seen = append(r.seen, h)
	r.is("Enter", r.lru.Enter(h), r.m.enter(h))
}

// gives lets an item leave, and gives its chunk.
func (r *run) gives(h api.Handle) {
	r.is("Leave", r.lru.Leave(h), r.m.leave(h))
	if _, laid := r.m.class[h]; laid {
		r.is("class.Give", r.set.Give(h), api.OK)
		delete(r.m.class, h)
	}
}

func (r *run) picks(c int, own api.Handle, looks int) {
	r.Helper()
	odd := api.Handle(2 + r.Intn(9))
	dead := func(h api.Handle) bool { return h>>3%odd == 1 }
	h, isDead, looked := r.m.pick(c, own, looks, dead)
	r.pick(c, own, looks, dead, h, isDead, looked)
	h, isDead, looked = r.m.pick(c, own, looks, in())
	r.pick(c, own, looks, nil, h, isDead, looked)
}

func (r *run) balances(c, links int) {
	r.Helper()
	var told []api.Handle
	n := r.lru.Balance(c, links, func(h api.Handle) { told = append(told, h) })
	if must := r.m.balance(c, links); n != len(must) || !slices.Equal(told, must) {
		r.Errorf("Balance(%d, %d): %d, %d; not %d", c, links, n, told, must)
	}
}

// act does one thing to both, and holds what they answer against each other.
func (r *run) act() {
	r.Helper()
	h, c := r.any(), r.Intn(classes+2)-1
	switch r.Intn(12) {
	case 0, 1, 2:
		r.lays()
	case 3:
		r.gives(h)
	case 4:
		r.is("Enter", r.lru.Enter(h), r.m.enter(h))
	case 5:
		r.is("Leave", r.lru.Leave(h), r.m.leave(h))
	case 6, 7, 8:
		r.is("Hit", r.lru.Hit(h), r.m.hit(h))
	case 9, 10:
		r.balances(c, r.Intn(12)-2)
	default:
		r.picks(c, h, r.Intn(12)-2)
	}
}

// compare holds everything that is told against the model.
func (r *run) compare() {
	r.Helper()
	for c := -1; c <= classes; c++ {
		r.walks(c, r.m.row(c)...)
		var q [4][]api.Handle
		if c >= 0 && c < classes {
			q = r.m.queues[c]
		}
		r.lengths(c, len(q[api.Hot]), len(q[api.Warm]), len(q[api.Cold]))
	}
	for h := range r.m.class {
		must := r.m.marks[h]
		if r.m.active[h] {
			must |= api.MarkActive
		}
		if n, e := item.Marks(r.set, h); n != must || e != api.OK {
			r.Errorf("marks of %d: %d, %v; not %d", h, n, e, must)
		}
	}
}

// P8.2 to P8.6, P8.8: whatever is called, the queues are those of the plain rows.
func TestAgainstModel(t *testing.T) {
	for seed := range int64(40) {
		r := runOf(t, seed)
		for i := range 1200 {
			r.act()
			if i%10 == 0 {
				r.compare()
			}
			if t.Failed() {
				t.Fatalf("seed %d, act %d", seed, i)
			}
		}
	}
}

// P8.7: no byte is changed but links 1 and 2, states and marks of items.
func TestNoOtherByte(t *testing.T) {
	r := runOf(t, 3)
	for range 60 {
		r.lays()
	}
	must := blotted(r)
	for i := range 3000 {
		h, c := r.any(), r.Intn(classes)
		switch i % 6 {
		case 0:
			r.lru.Enter(h)
		case 1, 2:
			r.lru.Hit(h)
		case 3:
			r.lru.Balance(c, 3, nil)
		case 4:
			r.lru.Pick(c, h, 5, nil)
		default:
			r.lru.Leave(h)
		}
		if !bytes.Equal(blotted(r), must) {
			t.Fatalf("act %d has changed other bytes", i)
		}
	}
}

// blotted is the arena's bytes with what is this layer's blotted out of all items.
func blotted(r *run) []byte {
	r.Helper()
	p := r.image()
	for h := range r.m.class {
		place, _, e := r.set.At(h)
		if e != api.OK {
			r.Fatal("class.At:", e)
		}
		clear(p[place+aheadAt : place+behindAt+4])
		p[place+stateAt], p[place+marksAt] = 0, 0
	}
	return p
}

// R4: the same calls are answered alike, whenever they come.
func TestAlike(t *testing.T) {
	one, two := runOf(t, 7), runOf(t, 7)
	for range 800 {
		one.act()
		two.act()
	}
	if !slices.EqualFunc(one.lists(), two.lists(), slices.Equal) || !slices.Equal(one.image(), two.image()) {
		t.Error("two runs of the same calls differ")
	}
}
