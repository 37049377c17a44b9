package count_test

import (
	"math"
	"math/rand/v2"
	"testing"

	"granary/api"
	"granary/count"
)

// act is a call of Command or of Add, which has a name then.
type act struct {
	call
	name int
	n    uint64
}

func (x act) on(b *count.Board) {
	if x.name != 0 {
		b.Add(x.name, x.n)
		return
	}
	x.call.on(b)
}

func pick[T any](r *rand.Rand, all []T) T { return all[r.IntN(len(all))] }

// anyCall is a call of anything.
func anyCall(r *rand.Rand) call {
	x := told(pick(r, verbs()), pick(r, texts()))
	if r.IntN(3) > 0 {
		x.c.Verb = r.IntN(24) + 1
	}
	if r.IntN(2) > 0 {
		x.a.Kind = pick(r, answers())
	}
	for range r.IntN(5) {
		x.why = append(x.why, r.IntN(6)-1)
	}
	x.c.Meta = pick(r, flagLists())
	if r.IntN(4) > 0 {
		return x.worked(r.IntN(9)-3, r.IntN(9)-3, r.IntN(9)-3)
	}
	x.m = pick(r, meters())
	return x
}

// anyActs are acts by which no number comes to the greatest.
func anyActs(r *rand.Rand, n int) (all []act) {
	for range n {
		x := act{call: anyCall(r)}
		x.m = api.Meter{Dropped: r.IntN(9) - 3, Reclaimed: r.IntN(9) - 3, Crawled: r.IntN(9) - 3}
		if r.IntN(4) == 0 {
			x.name, x.n = r.IntN(40)-5, r.Uint64()>>20
		}
		all = append(all, x)
	}
	return all
}

// P15.5: the order of calls is not seen, and calls may be split onto several boards.
func TestOrder(t *testing.T) {
	r := rand.New(rand.NewPCG(15, 1))
	for range 200 {
		acts := anyActs(r, 60)
		b := count.New()
		for _, x := range acts {
			x.on(b)
		}
		must := read(b)
		back := count.New()
		for i := range acts {
			acts[len(acts)-1-i].on(back)
		}
		holds(t, back, must)
		for range 5 {
			r.Shuffle(len(acts), func(i, j int) { acts[i], acts[j] = acts[j], acts[i] })
			mixed, halves := count.New(), []*count.Board{count.New(), count.New()}
			for _, x := range acts {
				x.on(mixed)
				x.on(pick(r, halves))
			}
			holds(t, mixed, must)
			sum := read(halves[0])
			for name, n := range read(halves[1]) {
				sum[name] += n
			}
			if sum != must {
				t.Fatalf("two boards have %q, not %q", shown(sum), shown(must))
			}
		}
	}
}

// P15.5: what holds between the numbers, as long as Command alone adds.
func TestLaws(t *testing.T) {
	r := rand.New(rand.NewPCG(15, 2))
	for range 100 {
		b := count.New()
		for range 300 {
			anyCall(r).on(b)
			s := read(b)
			if s[1] != s[6]+s[7] {
				t.Fatalf("cmd_get is not the sum of get_hits and get_misses: %q", shown(s))
			}
			if s[8]+s[9] > s[7] {
				t.Fatalf("get_misses is too small: %q", shown(s))
			}
		}
	}
}

// All calls of any kind, held against numbers that are kept aside.
func TestAnyCalls(t *testing.T) {
	r := rand.New(rand.NewPCG(15, 3))
	for range 300 {
		b, must := count.New(), sums{}
		for range 150 {
			name, n := r.IntN(34)-2, r.Uint64()>>r.IntN(64)
			if r.IntN(10) == 0 {
				name = pick(r, []int{math.MinInt, math.MaxInt})
			}
			isName := name >= 1 && name <= names
			switch r.IntN(20) {
			case 0:
				b.Reset()
				must = sums{25: must[25], 26: must[26], 28: must[28]}
			case 1, 2, 3:
				b.Set(name, n)
				if isName {
					must[name] = n
				}
			case 4, 5, 6:
				b.Add(name, n)
				if isName {
					must.add(name, n)
				}
			default:
				x := anyCall(r)
				x.on(b)
				must.count(x)
			}
			if got := read(b); got != must {
				t.Fatalf("%q, not %q", shown(got), shown(must))
			}
		}
		holds(t, b, must)
	}
}
