package count_test

import (
	"sync"
	"testing"

	"granary/api"
	"granary/count"
)

// rounds is how often each goroutine calls.
const rounds = 2000

// together runs functions at one time, each of them several times over, and waits for all.
func together(each int, functions ...func()) {
	var all sync.WaitGroup
	for _, f := range functions {
		for range each {
			all.Go(func() {
				for range rounds {
					f()
				}
			})
		}
	}
	all.Wait()
}

// statsOf is what one call of Stats tells.
func statsOf(b *count.Board) (s sums) {
	for i, l := range b.Stats() {
		s[i+1] = l.Value
	}
	return s
}

// P15.4: nothing is lost, whoever else adds or reads.
func TestTogetherSums(t *testing.T) {
	b := count.New()
	calls := []call{
		of(api.Get, api.Values, 0, 2).worked(0, 0, 1),
		of(api.Gats, api.Values, 3, 1, 0),
		of(api.Cas, api.Stored, 0).worked(1, 0, 2),
		told(api.MetaSet, "HD c9", 0).with("C5"),
		told(api.MetaArith, "HD", 0).with("MD").worked(0, 1, 0),
		of(api.Touch, api.Refused, 1),
	}
	var functions []func()
	for _, x := range calls {
		functions = append(functions, func() { x.on(b) })
	}
	for _, name := range []int{1, 24, 30, 31} {
		functions = append(functions, func() { b.Add(name, 2) })
	}
	functions = append(functions, func() { b.Stats() }, func() { b.Read(1); b.Read(0) }, func() { count.Name(7) }, func() { b.Set(25, 8); b.Set(-1, 8) })
	together(3, functions...)
	must := sums{}
	for range 3 * rounds {
		for _, x := range calls {
			must.count(x)
		}
		must.plus("cmd_get 2 total_items 2 bad_lines 2")
	}
	must[25] = 8
	holds(t, b, must)
}

// P15.4: no call of Command is seen in part, by Stats or by Reset.
func TestTogetherWhole(t *testing.T) {
	b := count.New()
	x := told(api.MetaSet, "HD", 0).with("C5").worked(1, 1, 1)
	watch := func() {
		s := statsOf(b)
		for _, name := range []int{5, 16, 21, 22, 24, 29} {
			if s[name] != s[2] {
				t.Errorf("%q was seen", shown(s))
				return
			}
		}
	}
	together(2, func() { x.on(b) }, func() { x.on(b) }, watch, watch, func() { b.Reset(); watch() })
	watch()
}

// P15.4 and P15.5: the sums of the gets are right in all that is ever told.
func TestTogetherGets(t *testing.T) {
	b := count.New()
	gets := []call{of(api.Get, api.Values, 0, 1, 2, 3), of(api.Gat, api.Values, 3, 3, 0), told(api.MetaGet, "EN", 2), of(api.Gets, api.Values, 4, 1)}
	functions := []func(){func() {
		s := statsOf(b)
		if s[1] != s[6]+s[7] || s[8]+s[9] > s[7] || s[3] != s[19]+s[20] {
			t.Errorf("%q was seen", shown(s))
		}
	}, b.Reset}
	for _, x := range gets {
		functions = append(functions, func() { x.on(b) })
	}
	together(2, functions...)
}

// P15.4: what comes to the greatest number at one time stays there.
func TestTogetherAtTheGreatest(t *testing.T) {
	b := count.New()
	b.Set(1, greatest-rounds)
	var before sync.Map
	together(4, func() { b.Add(1, 1) }, func() {
		n := b.Read(1)
		before.Store(n, true)
	})
	if n := b.Read(1); n != greatest {
		t.Errorf("%d in the end", n)
	}
	before.Range(func(n, _ any) bool {
		if n.(uint64) < greatest-rounds {
			t.Errorf("%d was read", n)
		}
		return true
	})
}

// P15.4: of two that lay a number at one time each lays it whole.
func TestTogetherSet(t *testing.T) {
	b := count.New()
	b.Set(26, 1<<32-1)
	together(2, func() { b.Set(26, 1<<32-1) }, func() { b.Set(26, 1<<63) }, func() {
		if n := b.Read(26); n != 1<<32-1 && n != 1<<63 {
			t.Errorf("%d was read", n)
		}
	}, b.Reset)
}

// R4: boards that were made apart don't wait for each other, and know nothing of each other.
func TestTogetherApart(t *testing.T) {
	one, two := count.New(), count.New()
	together(2, func() { one.Add(2, 1) }, func() { two.Add(2, 3) }, func() { of(api.Set, api.Stored).on(one) })
	has(t, one, "cmd_set 8000 total_items 4000")
	has(t, two, "cmd_set 12000")
}
