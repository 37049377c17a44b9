package crawl_test

import (
	"math"
	"math/rand"
	"slices"
	"testing"

	"granary/api"
)

// model says the chapter anew, plainly: lists are rows from head to tail, and it asks a world's own note of who is dead.
type model struct {
	lists   [classes][4][]api.Handle
	wheel   []entry // in the order in which they were set
	classes int
	begun   bool
	at      [2]int // the class and the kind of the list at which the round is
	next    api.Handle
	left    int
	done    int
	asked   []api.Handle
	gone    []api.Handle
}

type entry struct {
	h      api.Handle
	expiry int
}

// where is the list in which an item stands, and its place there.
func (m *model) where(h api.Handle) (list *[]api.Handle, i int) {
	for c := range m.lists {
		for kind := range m.lists[c] {
			if i := slices.Index(m.lists[c][kind], h); i >= 0 {
				return &m.lists[c][kind], i
			}
		}
	}
	return nil, 0
}

func (m *model) ahead(h api.Handle) api.Handle {
	list, i := m.where(h)
	if i == 0 {
		return 0
	}
	return (*list)[i-1]
}

func (m *model) left1() {
	m.left--
	m.next = m.ahead(m.next)
	if m.left == 0 {
		m.next = 0
	}
}

func (m *model) tell(h api.Handle) {
	if m.begun && m.next != 0 && m.next == h {
		m.left1()
	}
}

// leave takes an item out of its list and the wheel.
func (m *model) leave(h api.Handle) {
	m.tell(h)
	list, i := m.where(h)
	*list = slices.Delete(*list, i, i+1)
}

func (m *model) set(h api.Handle, expiry int) {
	m.wheel = slices.DeleteFunc(m.wheel, func(e entry) bool { return e.h == h })
	if expiry > 0 {
		m.wheel = append(m.wheel, entry{h, expiry})
	}
}

func (m *model) due(now int) (all []api.Handle) {
	row := slices.DeleteFunc(slices.Clone(m.wheel), func(e entry) bool { return e.expiry > now })
	slices.SortStableFunc(row, func(a, b entry) int { return a.expiry - b.expiry })
	for _, e := range row {
		all = append(all, e.h)
	}
	return all
}

// come comes to a list; false, if there is no such class.
func (m *model) come(c, kind int) bool {
	if c == m.classes {
		m.begun, m.next, m.left = false, 0, 0
		m.done++
		return false
	}
	m.begun, m.at, m.next = true, [2]int{c, kind}, 0
	m.left = 0
	if c < classes {
		m.left = len(m.lists[c][kind])
	}
	if m.left > 0 {
		m.next = m.lists[c][kind][m.left-1]
	}
	return true
}

// behind comes to the list behind.
func (m *model) behind() bool {
	if !m.begun {
		return m.come(0, api.Cold)
	}
	if m.at[1] == api.Hot {
		return m.come(m.at[0]+1, api.Cold)
	}
	return m.come(m.at[0], m.at[1]-1)
}

func (m *model) look(h api.Handle, dead func(api.Handle) bool) {
	m.asked = append(m.asked, h)
	if dead(h) {
		m.gone = append(m.gone, h)
		m.leave(h)
		m.set(h, 0)
	}
}

func (m *model) step(now, most int, dead func(api.Handle) bool) {
	m.asked, m.gone = nil, nil
	if most < 1 {
		return
	}
	due := m.due(now)
	for _, h := range due[:min(most, len(due))] {
		m.look(h, dead)
	}
	for len(m.asked) < most {
		for m.next == 0 {
			if !m.behind() {
				return
			}
		}
		h := m.next
		m.left1()
		m.look(h, dead)
	}
}

func (m *model) place() (class, done int) {
	if !m.begun {
		return 0, m.done
	}
	return m.at[0], m.done
}

// run is a world beside its model, and a source of what is done to both.
type run struct {
	*world
	*rand.Rand
	m *model
}

func runOf(t *testing.T, seed int64) *run {
	t.Helper()
	r := rand.New(rand.NewSource(seed))
	n := 1 + r.Intn(5) // fewer classes than there are, or more
	return &run{begun(t, n), r, &model{classes: n}}
}

// items are all that stand in a list.
func (r *run) items() []api.Handle { return slices.Concat(r.lists()...) }

// any is an item that stands in a list; 0, if there is none. The round's next one comes more often.
func (r *run) any() api.Handle {
	all := r.items()
	if r.m.next != 0 && r.Intn(3) == 0 {
		return r.m.next
	}
	if len(all) == 0 {
		return 0
	}
	return all[r.Intn(len(all))]
}

// lays lays a new item into a list, at its head or at its tail.
func (r *run) lays() {
	c, kind, expiry := r.Intn(classes), api.Hot+r.Intn(3), max(r.Intn(30)+r.now-10, 0)
	if r.Intn(3) == 0 {
		expiry = 0
	}
	if r.set.Taken(c) >= 12 {
		return
	}
	h := r.laid("k", c, expiry)
	if r.Intn(2) == 0 {
		r.wheel.Set(h, expiry)
		r.m.set(h, expiry)
	}
	list := &r.m.lists[c][kind]
	if r.Intn(3) == 0 {
		r.is("queue.Last", r.queue.Last(h, kind), api.OK)
		*list = append(*list, h)
		return
	}
	r.is("queue.Push", r.queue.Push(h, kind), api.OK)
	*list = slices.Insert(*list, 0, h)
}

// moves moves an item to a list's head.
func (r *run) moves(h api.Handle) {
	_, c, _ := r.set.At(h)
	kind := api.Hot + r.Intn(3)
	r.shift(h, kind)
	r.m.leave(h)
	r.m.lists[c][kind] = slices.Insert(r.m.lists[c][kind], 0, h)
}

// steps makes a Step, and holds what is told against the model.
func (r *run) steps(most int) {
	r.Helper()
	r.now += r.Intn(3)
	r.m.step(r.now, most, func(h api.Handle) bool { return r.expiry[h] > 0 && r.expiry[h] <= r.now })
	r.asked, r.taken = nil, nil
	looked, taken := r.crawl.Step(r.now, most)
	if looked != len(r.m.asked) || taken != len(r.m.gone) || !slices.Equal(r.asked, r.m.asked) || !slices.Equal(r.taken, r.m.gone) {
		r.Errorf("Step(%d, %d): %d %d, asked of %d, taken %d; not %d, %d", r.now, most, looked, taken, r.asked, r.taken, r.m.asked, r.m.gone)
	}
}

// act does one thing to both.
func (r *run) act() {
	r.Helper()
	h := r.any()
	switch k := r.Intn(20); {
	case k < 6:
		r.lays()
	case k < 12:
		r.steps(r.Intn(7) - 1)
	case k == 12:
		r.crawl.Again()
		r.m.begun, r.m.next, r.m.left = false, 0, 0
	case k == 13:
		strange := api.Handle(r.Uint64() >> r.Intn(64))
		r.crawl.Left(strange)
	case h == 0:
	case k == 14:
		r.crawl.Left(h) // it goes nowhere
		r.m.tell(h)
	case k == 15:
		expiry := r.now + r.Intn(9) - 3
		r.expiry[h] = expiry
		r.wheel.Set(h, expiry)
		r.m.set(h, expiry)
	case k < 18:
		r.drop(h)
		r.m.leave(h)
		r.m.set(h, 0)
	default:
		r.moves(h)
	}
}

// compare holds everything that is told against the model.
func (r *run) compare() {
	r.Helper()
	r.place(r.m.place())
	i := 0
	for c := range classes {
		for kind := api.Hot; kind <= api.Cold; kind++ {
			if got := r.lists()[i]; !slices.Equal(got, r.m.lists[c][kind]) {
				r.Errorf("list %d of class %d: %d, not %d", kind, c, got, r.m.lists[c][kind])
			}
			i++
		}
	}
	if got := r.wheel.Due(math.MaxInt, math.MaxInt); !slices.Equal(got, r.m.due(math.MaxInt)) {
		r.Errorf("wheel: %d, not %d", got, r.m.due(math.MaxInt))
	}
}

// P9.2 to P9.6: whatever is done between, the round is that of the plain rows.
func TestAgainstModel(t *testing.T) {
	for seed := range int64(60) {
		r := runOf(t, seed)
		for i := range 1000 {
			r.act()
			r.compare()
			if t.Failed() {
				t.Fatalf("seed %d, act %d", seed, i)
			}
		}
		if r.m.done < 3 {
			t.Errorf("seed %d: only %d rounds", seed, r.m.done)
		}
	}
}

// R4: the same calls are answered alike, whenever they come.
func TestAlike(t *testing.T) {
	one, two := runOf(t, 7), runOf(t, 7)
	for i := range 800 {
		one.act()
		two.act()
		if !slices.Equal(one.asked, two.asked) || !slices.Equal(one.taken, two.taken) {
			t.Fatalf("act %d: two runs of the same calls differ", i)
		}
	}
	if !slices.EqualFunc(one.lists(), two.lists(), slices.Equal) || !slices.Equal(one.image(), two.image()) {
		t.Error("two runs of the same calls differ")
	}
}
