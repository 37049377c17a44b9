package table_test

import (
	"bytes"
	"math/rand"
	"slices"
	"testing"

	"granary/api"
	"granary/hash"
	"granary/item"
)

// model says the chapter anew, plainly: a map, and the numbers of P5.4 and P5.5.
type model struct {
	keys                  map[api.Handle]string // of every chunk that has an item
	in                    map[string]api.Handle
	buckets, moving, most int
	growths, shrinks      int
}

func (m *model) has(h api.Handle) bool {
	k, laid := m.keys[h]
	return laid && m.in[k] == h
}

func (m *model) put(h api.Handle) api.Errno {
	k, laid := m.keys[h]
	if !laid {
		return api.ErrHandle
	}
	if m.in[k] != 0 {
		return api.ErrTwice
	}
	m.in[k] = h
	if m.moving == 0 && 2*len(m.in) > 3*m.buckets && m.buckets < m.most {
		m.moving, m.buckets = m.buckets, 2*m.buckets
		m.growths++
	}
	return api.OK
}

func (m *model) take(h api.Handle) api.Errno {
	if !m.has(h) {
		return api.ErrHandle
	}
	delete(m.in, m.keys[h])
	if m.moving == 0 && m.buckets > 16 && 8*len(m.in) < m.buckets {
		m.moving, m.buckets = m.buckets, m.buckets/2
		m.shrinks++
	}
	return api.OK
}

func (m *model) swap(old, h api.Handle) api.Errno {
	k, laid := m.keys[h]
	if !m.has(old) || !laid || m.has(h) {
		return api.ErrHandle
	}
	if m.keys[old] != k {
		return api.ErrArg
	}
	m.in[k] = h
	return api.OK
}

func (m *model) step(n int) int {
	gone := max(0, min(n, m.moving))
	m.moving -= gone
	return gone
}

// run is a world beside its model, and a source of what is done to both.
type run struct {
	*world
	*rand.Rand
	m    *model
	seen []api.Handle // every handle that there was
}

// pool is how many keys a run makes up; it lengthens some of them.
const pool = 700

func runOf(t *testing.T, seed int64) *run {
	t.Helper()
	m := &model{keys: map[api.Handle]string{}, in: map[string]api.Handle{}, buckets: 16, most: 2048}
	return &run{begun(t, roomy()), rand.New(rand.NewSource(seed)), m, nil}
}

func (r *run) anyKey() string { return key(r.Intn(pool)) }

// any is one of the handles that there were, the latest ones more often, or none at all.
func (r *run) any() api.Handle {
	if len(r.seen) == 0 || r.Intn(20) == 0 {
		return api.Handle(r.Uint64() >> r.Intn(64))
	}
	if r.Intn(3) == 0 {
		return r.seen[len(r.seen)-1-r.Intn(min(9, len(r.seen)))]
	}
	return r.seen[r.Intn(len(r.seen))]
}

// anyIn is a handle that is in, if one is soon found.
func (r *run) anyIn() api.Handle {
	h := r.any()
	for i := 0; i < 99 && !r.m.has(h); i++ {
		h = r.any()
	}
	return h
}

// same: did a call answer this, and change nothing if that is an error?
func (r *run) same(what string, call func() api.Errno, must api.Errno) {
	r.Helper()
	if must == api.OK {
		r.is(what, call(), must)
		return
	}
	ahead := r.image()
	r.is(what, call(), must)
	if !bytes.Equal(r.image(), ahead) {
		r.Errorf("a %s that was refused has changed bytes", what)
	}
}

func (r *run) putBoth(h api.Handle) {
	r.Helper()
	r.same("Put", func() api.Errno { return r.table.Put(h) }, r.m.put(h))
}

func (r *run) takeBoth(h api.Handle) {
	r.Helper()
	r.same("Take", func() api.Errno { return r.table.Take(h) }, r.m.take(h))
}

func (r *run) swapBoth(old, h api.Handle) {
	r.Helper()
	r.same("Swap", func() api.Errno { return r.table.Swap(old, h) }, r.m.swap(old, h))
}

func (r *run) stepBoth(n int) {
	r.Helper()
	r.steps(n, r.m.step(n))
}

// lays takes a chunk, where there is one, and lays an item into it.
func (r *run) lays(k string) api.Handle {
	h, e := r.set.Take(r.Intn(3) / 2)
	if e != api.OK {
		return r.any()
	}
	r.lay(h, k)
	r.m.keys[h] = k
	r.seen = append(r.seen, h)
	return h
}

// near is the key of an item, or one that begins like it.
func (r *run) near(h api.Handle) string {
	k, laid := r.m.keys[h]
	switch {
	case !laid:
		return r.anyKey()
	case r.Intn(3) > 0 || len(k) > 4: // the least chunk has room for 6 bytes of key and value
		return k
	}
	return k + "+"
}

// loosen does with an item that is not in the table what may be done with it then.
func (r *run) loosen(h api.Handle) {
	if _, laid := r.m.keys[h]; !laid || r.m.has(h) {
		return
	}
	switch r.Intn(4) {
	case 0:
		r.m.keys[h] = r.anyKey()
		r.lay(h, r.m.keys[h])
	case 1:
		item.SetLink(r.set, h, 0, r.any())
	default:
		r.is("class.Give", r.set.Give(h), api.OK)
		delete(r.m.keys, h)
	}
}

// touch does with any item what may be done with it always.
func (r *run) touch(h api.Handle) {
	item.SetToken(r.set, h, r.Uint64())
	item.SetLink(r.set, h, 1+r.Intn(2), r.any())
	item.Value(r.set, h, make([]byte, r.Intn(3)))
}

// act does one thing to both, and holds what they answer against each other. With much, there are rather more items behind it than ahead.
func (r *run) act(much bool) {
	r.Helper()
	switch kind := r.Intn(10); {
	case kind < 4 && much:
		r.putBoth(r.lays(r.anyKey()))
	case kind < 4:
		h := r.anyIn()
		r.takeBoth(h)
		r.loosen(h)
	case kind < 6:
		old := r.anyIn()
		r.swapBoth(old, r.lays(r.near(old)))
		r.loosen(old)
	case kind == 6:
		r.swapBoth(r.any(), r.any())
		r.putBoth(r.any())
	case kind == 7:
		r.takeBoth(r.any())
	case kind == 8:
		r.touch(r.any())
		r.loosen(r.any())
	default:
		r.stepBoth(r.Intn(30) - 3)
	}
	r.counts(len(r.m.in), r.m.buckets, r.m.moving)
}

// agree: is each key found, or not, as the model says?
func (r *run) agree() {
	r.Helper()
	for i := range pool {
		r.finds(key(i), r.m.in[key(i)])
	}
	for k, h := range r.m.in {
		r.finds(k, h)
	}
}

// P5.2 to P5.6 and P5.8: any run of calls answers what the map answers, and moves when the chapter says.
func TestAgainstModel(t *testing.T) {
	growths, shrinks := 0, 0
	for seed := range int64(12) {
		r := runOf(t, seed)
		for i := range 4000 {
			r.act(i%2000 < 900)
			if i%50 == 0 {
				r.agree()
			}
			if t.Failed() {
				t.Fatalf("seed %d, act %d", seed, i)
			}
		}
		r.agree()
		growths += r.m.growths
		shrinks += r.m.shrinks
	}
	if growths < 40 || shrinks < 40 {
		t.Errorf("only %d growths and %d shrinkings were seen", growths, shrinks)
	}
}

// answers are what a script is answered, Find of all keys behind each call too, with Step(pace) behind each.
func answers(t *testing.T, seed int64, pace int) (all []int) {
	w, r := begun(t, roomy()), rand.New(rand.NewSource(seed))
	const keys = 90
	var items []api.Handle
	for i := range keys {
		items = append(items, w.laid(0, key(i)), w.laid(0, key(i)))
	}
	for i := range 1200 {
		a, b := items[r.Intn(len(items))], items[r.Intn(len(items))]
		e := api.OK
		switch n := r.Intn(8); {
		case n < 2:
			e = w.table.Swap(a, b)
		case n < 3:
			e = w.table.Swap(items[2*(i%keys)], items[2*(i%keys)+1])
		case n < 6 == (i%600 < 300):
			e = w.table.Put(a)
		default:
			e = w.table.Take(a)
		}
		all = append(all, int(e), w.table.Len())
		for k := range keys {
			h, ok := w.table.Find([]byte(key(k)))
			if ok != (h != 0) {
				t.Fatal("Find:", h, ok)
			}
			all = append(all, int(h))
		}
		w.table.Step(pace)
	}
	return all
}

// P5.6: when Step is called, and so Buckets and Moving, is not seen in any answer.
func TestPaceIsNotSeen(t *testing.T) {
	for seed := range int64(5) {
		must := answers(t, seed, 0)
		for _, pace := range []int{-1, 1, 3, 8, 1 << 20} {
			if !slices.Equal(answers(t, seed, pace), must) {
				t.Errorf("seed %d: with Step(%d) the answers are others than without", seed, pace)
			}
		}
	}
}

// chains tells how many items nobody leads to, of those that are in. Each leads to none, or to one of its own bucket to which no other leads.
func (r *run) chains() int {
	r.Helper()
	led := map[api.Handle]int{}
	for k, h := range r.m.in {
		to, e := item.Link(r.set, h, 0)
		if e != api.OK || to == 0 {
			continue
		}
		led[to]++
		if !r.m.has(to) || led[to] > 1 || bucketOf(k, r.m.buckets) != bucketOf(r.m.keys[to], r.m.buckets) {
			r.Errorf("%q leads to %q", k, r.m.keys[to])
		}
	}
	return len(r.m.in) - len(led)
}

func bucketOf(k string, buckets int) uint64 { return hash.Sum([]byte(k)) % uint64(buckets) }

// P5.7: behind a move there is a chain for each bucket that has items, and it has these alone: what is looked at for a key are those of its bucket.
func TestChains(t *testing.T) {
	for seed := range int64(5) {
		r := runOf(t, seed)
		for i := range 3000 {
			r.act(i%1500 < 700)
			if i%25 > 0 {
				continue
			}
			r.stepBoth(1 << 20)
			buckets := map[uint64]int{}
			for k := range r.m.in {
				buckets[bucketOf(k, r.m.buckets)]++
			}
			if n := r.chains(); n != len(buckets) {
				t.Errorf("%d chains for %d buckets that have items", n, len(buckets))
			}
			if t.Failed() {
				t.Fatalf("seed %d, act %d", seed, i)
			}
		}
	}
}
