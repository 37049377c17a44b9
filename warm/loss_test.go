package warm_test

import (
	"slices"
	"testing"

	"granary/api"
	"granary/store"
	"granary/warm"
)

// kinds are all that may come of an act.
var kinds = []int{api.Ahead, api.Behind, api.Tear, api.Room, api.Lose, api.Late}

// cuts are what a loss of power may keep: all prefixes of some changes, and bytes of each file, kept or torn.
func cuts(changes, files int) (all []api.Cut) {
	for names := range changes + 1 {
		for _, n := range []int{0, 1, 50, 1 << 20} {
			all = append(all, api.Cut{Names: names, Bytes: slices.Repeat([]int{n}, files)})
		}
		for i := range files {
			one := make([]int, files)
			one[i] = 1 << 20
			all = append(all, api.Cut{Names: names, Bytes: one})
		}
	}
	return all
}

// shot is what a picture must tell when it is loaded.
type shot struct {
	rows   []api.Row
	number int
}

func shotOf(s *store.Store, number int) shot { return shot{s.Rows(), number} }

// takes: does a start take one of these pictures, whole? Its place among them.
func (w *world) takes(some ...shot) int {
	w.Helper()
	s, start, err := warm.Load(w.Disk, small(), 1)
	w.fine(err)
	for i, x := range some {
		if start == taken(len(x.rows), 0, x.number) && sameRows(s.Rows(), x.rows) {
			return i
		}
	}
	w.Fatalf("a start takes %+v with %d rows", start, len(s.Rows()))
	return -1
}

// stages are a store's pictures, one richer than the other.
func stages(t *testing.T) []*store.Store {
	t.Helper()
	s := []*store.Store{filled(t, "a"), filled(t, "a", "b"), filled(t, "c", "d", "e")}
	s[1].Tick(1)
	return s
}

// P18.17: a second and a third Save are refused, or lose power, at each act, with each kind and each cut: a start takes the old picture or the new one, whole; once it has, so does each that follows.
func TestSaveIsWhole(t *testing.T) {
	s := stages(t)
	old, next := shotOf(s[1], 2), shotOf(s[2], 3)
	seen := [2]int{}
	for _, kind := range kinds {
		for n := 1; n <= 11; n++ {
			for _, c := range cuts(4, 10) {
				w := disk(t, plenty)
				w.saves(s[0])
				w.saves(s[1])
				w.plan(n, kind, 20)
				err := warm.Save(w.Disk, s[2])
				if (err == nil) != (n == 11) {
					t.Fatalf("act %d: %v", n, err)
				}
				w.Restart(c)
				at := 0
				if err == nil {
					w.takes(next) // never the older one
					at = 1
				} else {
					at = w.takes(old, next)
				}
				seen[at]++
				w.Restart(api.Cut{})
				w.takes([]shot{old, next}[at])
			}
		}
	}
	if seen[0] == 0 || seen[1] == 0 {
		t.Errorf("%v", seen)
	}
}

// P18.17: the same without a restart: a Load, or a Save and a Load, come at once behind the refused Save.
func TestRefusedSave(t *testing.T) {
	s := stages(t)
	old, next := shotOf(s[1], 2), shotOf(s[2], 3)
	for _, kind := range []int{api.Ahead, api.Behind, api.Tear, api.Room} {
		for n := 1; n <= 10; n++ {
			begin := func() *world {
				w := disk(t, plenty)
				w.saves(s[0])
				w.saves(s[1])
				w.plan(n, kind, 91)
				w.is(warm.Save(w.Disk, s[2]), map[bool]api.Errno{true: api.ErrSpace, false: api.ErrIO}[kind == api.Room])
				return w
			}
			w := begin()
			at := w.takes(old, next)
			if must := n == 10 || n == 9 && kind == api.Behind; (at == 1) != must {
				t.Fatalf("kind %d at act %d: the picture %d", kind, n, at)
			}
			w.Restart(api.Cut{})
			w.takes([]shot{old, next}[at]) // the first start has made it safe
			w = begin()
			w.saves(s[0])
			w.Restart(api.Cut{})
			w.takes(shotOf(s[0], 3+at))
		}
	}
}

// P18.17: a first Save: a start is cold or takes it.
func TestFirstSaveIsWhole(t *testing.T) {
	s := filled(t, "a", "b")
	for _, kind := range kinds {
		for n := 1; n <= 10; n++ {
			for _, c := range cuts(3, 3) {
				w := disk(t, plenty)
				w.plan(n, kind, 20)
				err := warm.Save(w.Disk, s)
				if (err == nil) != (n == 10) {
					t.Fatalf("act %d: %v", n, err)
				}
				w.Restart(c)
				got, start, again := warm.Load(w.Disk, small(), 1)
				w.fine(again)
				if start != cold(api.ErrMissing) && (start != taken(2, 0, 1) || !sameRows(got.Rows(), s.Rows())) || err == nil && !start.Warm {
					t.Fatalf("kind %d at act %d, %+v: %+v", kind, n, c, start)
				}
			}
		}
	}
}

// P18.17 and P18.18: a Load is refused, or loses power, at each act: the next one takes the same picture, with tokens above those of all before.
func TestLoadIsWhole(t *testing.T) {
	s := stages(t)
	must := shotOf(s[1], 2)
	for _, kind := range kinds {
		for n := 1; n <= 12; n++ {
			for _, c := range cuts(4, 9) {
				w := disk(t, plenty)
				w.saves(s[0])
				w.saves(s[1])
				w.fine(w.Create(newMeta), w.Append(newMeta, []byte("rest")))
				w.plan(n, kind, 20)
				first, _, err := warm.Load(w.Disk, small(), 1)
				if (err == nil) != (n == 12) {
					t.Fatalf("act %d: %v", n, err)
				}
				w.Restart(c)
				w.takes(must)
				if m := says(t, []byte(w.bytes(theMeta))); err == nil && m.Issued != first.Issued()+1<<32 {
					t.Fatalf("tokens: %d", m.Issued)
				}
			}
		}
	}
}

// player plays a long script of Saves, Loads and losses on one disk.
type player struct {
	*world
	dice
	now    *store.Store
	all    []*tracked // every store that was loaded or saved
	may    []shot     // the pictures that a start may take; none: it may be cold
	mayNot bool       // whether it may not be cold
	starts [2]int     // cold and warm
}

// tracked is a store, and what it had issued at its Load or its last Save that answered OK.
type tracked struct {
	s    *store.Store
	base uint64
}

// jump lets a store issue very many tokens, but fewer than a leap since its base.
func (p *player) jump() {
	x := p.all[len(p.all)-1]
	st := x.s.State()
	most := x.base + 1<<32 - 1 - 200 // its sets issue a few more
	st.Issued = max(st.Issued, min(st.Issued+pick[uint64](p.dice, 5, 1<<31, 1<<32), most))
	x.s = restored(p.T, small(), st, x.s.Rows())
	p.now = x.s
}

// disturb plans a few faults of the next acts.
func (p *player) disturb() {
	var all []api.Fault
	for range pick(p.dice, 0, 1, 1, 2) {
		all = append(all, api.Fault{Step: p.Acts() + 1 + p.IntN(16), Kind: pick(p.dice, kinds...), Part: p.IntN(100)})
	}
	p.Plan(all...)
}

// lose loses power, if it is gone or by chance.
func (p *player) lose() {
	if p.Power() && p.IntN(3) > 0 {
		return
	}
	c := api.Cut{Names: p.IntN(6)}
	for range 200 {
		c.Bytes = append(c.Bytes, pick(p.dice, 0, 1, 40, 91, 1<<20))
	}
	p.Restart(c)
}

func (p *player) save() {
	p.disturb()
	number := 1
	if b, err := p.Read(theMeta); err == nil {
		number = int(says(p.T, b).Number) + 1
	}
	x := shotOf(p.now, number)
	if err := warm.Save(p.Disk, p.now); err == nil {
		p.may, p.mayNot = []shot{x}, true
		p.all[len(p.all)-1].base = p.now.Issued()
	} else {
		whyOf(p.T, err)
		p.may = append(p.may, x)
	}
}

// load starts anew, till a start is not refused.
func (p *player) load() {
	for range 1000 {
		p.disturb()
		s, start, err := warm.Load(p.Disk, small(), 1)
		if err != nil {
			whyOf(p.T, err)
			p.lose()
			continue
		}
		p.judge(s, start)
		p.now = s
		p.all = append(p.all, &tracked{s, s.Issued()})
		return
	}
	p.Fatal("each start is refused")
}

// judge: may a start tell that?
func (p *player) judge(s *store.Store, start api.Start) {
	p.Helper()
	if !start.Warm {
		if p.mayNot || start != cold(api.ErrMissing) {
			p.Fatalf("a start is cold: %+v", start)
		}
		p.starts[0]++
		p.may = nil
		return
	}
	p.starts[1]++
	i := slices.IndexFunc(p.may, func(x shot) bool {
		return start == taken(len(x.rows), 0, x.number) && sameRows(s.Rows(), x.rows)
	})
	if i < 0 {
		p.Fatalf("a start takes no picture that it may: %+v", start)
	}
	p.may, p.mayNot = []shot{p.may[i]}, true
	for _, x := range p.all {
		if s.Issued() < x.s.Issued() {
			p.Fatalf("a store issues tokens from %d on, another one has issued %d", s.Issued(), x.s.Issued())
		}
	}
}

// W12, P18.17 and P18.18: over long scripts of Saves, Loads, refused acts, losses of power and tearing.
func TestLongScripts(t *testing.T) {
	sum := [2]int{}
	for seed := range uint64(400) {
		p := &player{world: disk(t, plenty), dice: diceOf(seed), now: opened(t, small())}
		p.all = []*tracked{{p.now, 0}}
		for range 25 {
			for range p.IntN(6) {
				sets(p.now, p.value(), p.key())
			}
			switch p.IntN(5) {
			case 0:
				p.jump()
			case 1, 2, 3:
				if p.Power() {
					p.save()
				}
				p.lose()
			}
			if !p.Power() {
				p.lose()
			}
			if p.IntN(3) == 0 {
				p.load()
			}
		}
		sum[0] += p.starts[0]
		sum[1] += p.starts[1]
	}
	if sum[0] < 50 || sum[1] < 500 {
		t.Errorf("%v starts are cold and warm", sum)
	}
}
