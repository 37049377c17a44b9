package tide_test

import (
	"cmp"
	"math"
	"math/rand"
	"slices"
	"testing"

	"granary/api"
	"granary/tide"
)

// model is a wheel said plainly: its entries in the order in which they were set.
type model []row

func (m *model) take(h api.Handle) bool {
	n := len(*m)
	*m = slices.DeleteFunc(*m, func(r row) bool { return r.handle == h })
	return len(*m) < n
}

func (m *model) set(h api.Handle, expiry int) {
	m.take(h)
	if expiry > 0 {
		*m = append(*m, row{h, expiry})
	}
}

// told are the entries in First's order.
func (m model) told() []row {
	rows := slices.Clone(m)
	slices.SortStableFunc(rows, func(a, b row) int { return cmp.Compare(a.expiry, b.expiry) })
	return rows
}

func (m model) due(now, most int) []api.Handle {
	var due []api.Handle
	for _, r := range m.told() {
		if r.expiry <= now && len(due) < most {
			due = append(due, r.handle)
		}
	}
	return due
}

// anyHandle is one of a few, so that they come again, or a wild one.
func anyHandle(r *rand.Rand, few int) api.Handle {
	if r.Intn(50) == 0 {
		return api.Handle(r.Uint64())
	}
	return api.Handle(r.Intn(few))
}

// P7.6, P7.7, P7.9: whatever is called, the wheel tells what the plain row tells.
func TestAgainstModel(t *testing.T) {
	for seed := range int64(60) {
		r := rand.New(rand.NewSource(seed))
		w, m := tide.NewWheel(), model{}
		few, spread := 1+r.Intn(120), 1+r.Intn(60)
		for i := range 1200 {
			h, expiry := anyHandle(r, few), r.Intn(spread+2)-1
			if r.Intn(3) == 0 {
				takes(t, w, h, m.take(h))
			} else {
				w.Set(h, expiry)
				m.set(h, expiry)
			}
			now, most := r.Intn(spread+4)-2, r.Intn(few+4)-2
			due(t, w, now, most, m.due(now, most)...)
			if i%5 == 0 {
				holds(t, w, m.told()...)
			}
			if t.Failed() {
				t.Fatalf("seed %d, act %d", seed, i)
			}
		}
		for _, x := range m.told() {
			first(t, w, x)
			takes(t, w, x.handle, true)
		}
		holds(t, w)
	}
}

// past is what was done to a clock, as P7.8 looks back on it.
type past struct {
	now     int
	issued  uint64
	born    map[uint64]int // the act at which a token was issued
	flushes []flush
	moves   []move
	acts    int
}

type flush struct{ act, at int } // at: the tick of its moment; 0: at once

type move struct{ act, to int }

// comes is the act at which a flush's moment came, if it did.
func (p *past) comes(i int) (int, bool) {
	f := p.flushes[i]
	if f.at == 0 {
		return f.act, true
	}
	for _, m := range p.moves {
		if m.act > f.act && m.to >= f.at {
			return m.act, i+1 == len(p.flushes) || p.flushes[i+1].act > m.act
		}
	}
	return 0, false
}

// dead: has a moment come since the token was issued?
func (p *past) dead(token uint64) bool {
	for i := range p.flushes {
		if act, ok := p.comes(i); ok && act > p.born[token] {
			return true
		}
	}
	return false
}

// act does one thing to a clock, and writes it down.
func (p *past) act(t *testing.T, r *rand.Rand, c *tide.Clock) {
	t.Helper()
	p.acts++
	switch r.Intn(6) {
	case 0, 1, 2:
		p.issued++
		p.born[p.issued] = p.acts
	case 3:
		by := 1 + r.Intn(4)
		moves(t, c, by, p.issued, api.OK)
		p.now += by
		p.moves = append(p.moves, move{p.acts, p.now})
	case 4:
		by := r.Intn(8) - 3
		c.Flush(by, p.issued)
		p.flushes = append(p.flushes, flush{p.acts, later(p.now, by)})
	default:
		moves(t, c, -r.Intn(2), p.issued, api.ErrArg)
		moves(t, c, most, p.issued, api.ErrClock)
	}
}

func later(now, by int) int {
	if by <= 0 {
		return 0
	}
	return now + by
}

// P7.8: an item is dead just if a moment has come since its token was issued.
func TestFlushesLookedBackOn(t *testing.T) {
	for seed := range int64(150) {
		r := rand.New(rand.NewSource(seed))
		p := &past{now: 1, born: map[uint64]int{}}
		c := clock(t, 1)
		for range 120 {
			p.act(t, r, c)
			for token := uint64(1); token <= p.issued; token++ {
				if got, want := tide.Dead(0, token, c.Now(), c.Cut()), p.dead(token); got != want {
					t.Fatalf("seed %d, act %d: token %d is dead: %v, not %v", seed, p.acts, token, got, want)
				}
			}
		}
		if c.Now() != p.now {
			t.Fatalf("seed %d: now %d, not %d", seed, c.Now(), p.now)
		}
	}
}

// R1, R4: wild numbers end and don't panic; the same calls are answered alike.
func TestWildAndAlike(t *testing.T) {
	run := func() []int {
		r := rand.New(rand.NewSource(3))
		wild := func() int {
			edges := []int{math.MinInt, math.MaxInt, 0, 1, -1, most, most + 1, relative, int(r.Uint64())}
			return edges[r.Intn(len(edges))] + r.Intn(3) - 1
		}
		var told []int
		c, w := clock(t, 1), tide.NewWheel()
		for range 3000 {
			token, cut := r.Uint64(), r.Uint64()
			e := tide.Expiry(wild(), wild())
			if tide.Dead(e, token, wild(), cut) {
				told = append(told, e)
			}
			c.Flush(wild(), token)
			told = append(told, int(c.Move(wild(), cut)), c.Now(), c.Pending(), int(c.Cut()))
			w.Set(api.Handle(wild()), e)
			for _, h := range w.Due(wild(), wild()) {
				told = append(told, int(h))
			}
			if n, e := tide.New(wild(), cut, wild()); n != nil {
				told = append(told, n.Now(), n.Pending(), int(e))
			}
		}
		return told
	}
	if !slices.Equal(run(), run()) {
		t.Error("two runs of the same calls differ")
	}
}
