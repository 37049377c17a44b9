package store_test

import (
	"math"
	"reflect"
	"testing"

	"granary/api"
	"granary/store"
)

// but is a Config that is another one at one place.
func but(lay func(*api.Config)) api.Config {
	c := small()
	lay(&c)
	return c
}

// tooMany has more classes than there may be.
func tooMany() api.Config {
	return api.Config{PageSize: 4096, Pages: 99, Factor: 105, MinChunk: 64, ItemLimit: 4096, Hot: 30, Warm: 30}
}

// opens: do New and Paced answer so?
func opens(t *testing.T, c api.Config, must api.Errno) {
	t.Helper()
	s, e := store.New(c)
	r, f := store.Paced(c, slow())
	if e != must || f != must || (s != nil) != (must == api.OK) || (r != nil) != (must == api.OK) {
		t.Errorf("New, Paced of %v: %v, %v; not %v", c, e, f, must)
	}
}

// P10.1: what class.New refuses, then what lru.New does.
func TestNewRefused(t *testing.T) {
	for _, lay := range []func(*api.Config){
		func(c *api.Config) { c.PageSize = 4095 },
		func(c *api.Config) { c.Pages = 0 },
		func(c *api.Config) { c.Pages = 1025 },
		func(c *api.Config) { c.Factor = 104 },
		func(c *api.Config) { c.Factor = 401 },
		func(c *api.Config) { c.MinChunk = 68 },
		func(c *api.Config) { c.ItemLimit = 63 },
		func(c *api.Config) { c.ItemLimit = 4097 },
		func(c *api.Config) { c.Hot = 0 },
		func(c *api.Config) { c.Hot = -1 },
		func(c *api.Config) { c.Hot = 61 },
		func(c *api.Config) { c.Warm = 0 },
		func(c *api.Config) { c.Warm = 61 },
		func(c *api.Config) { c.Hot, c.Warm = math.MaxInt, math.MaxInt },
		func(c *api.Config) { c.Hot, c.Warm = math.MinInt, math.MaxInt },
	} {
		opens(t, but(lay), api.ErrArg)
	}
	opens(t, tooMany(), api.ErrMany)
	opens(t, but(func(c *api.Config) { c.Pages = 2 }), api.ErrSmall)
	opens(t, api.Config{}, api.ErrArg)
	for _, lay := range []func(*api.Config){
		func(c *api.Config) { c.Pages = 3 },
		func(c *api.Config) { c.Hot, c.Warm = 60, 30 },
		func(c *api.Config) { c.Hot, c.Warm = 1, 89 },
		func(c *api.Config) { c.Hot, c.Warm = 1, 1 },
	} {
		opens(t, but(lay), api.OK)
	}
}

// P10.1: the order: class's refusals are ahead of those of shares and pace.
func TestNewRefusedInOrder(t *testing.T) {
	none := func(c api.Config, p api.Pace, must api.Errno) {
		t.Helper()
		c.Hot = 0
		if s, e := store.Paced(c, p); s != nil || e != must {
			t.Errorf("Paced(%v, %v): %v, not %v", c, p, e, must)
		}
	}
	for _, p := range []api.Pace{{}, {Buckets: -1}, {Crawl: api.MaxPace + 1}} {
		none(tooMany(), p, api.ErrMany)
		none(but(func(c *api.Config) { c.Pages = 2 }), p, api.ErrSmall)
		none(but(func(c *api.Config) { c.Pages, c.Factor = 2, 104 }), p, api.ErrArg)
		none(small(), p, api.ErrArg)
	}
}

// P10.1: each number of a Pace.
func TestPace(t *testing.T) {
	for _, n := range []int{math.MinInt, -1, 0, 1, api.MaxPace - 1, api.MaxPace, api.MaxPace + 1, math.MaxInt} {
		for i, p := range []api.Pace{{Buckets: n}, {Links: n}, {Crawl: n}} {
			s, e := store.Paced(small(), p)
			must := api.OK
			if n < 0 || n > 1<<20 {
				must = api.ErrArg
			}
			if e != must || (s != nil) != (must == api.OK) {
				t.Errorf("number %d of a Pace is %d: %v, not %v", i, n, e, must)
			}
			if s, e := store.Paced(but(func(c *api.Config) { c.Pages = 2 }), p); s != nil || e != api.ErrSmall {
				t.Errorf("number %d of a Pace is %d, and there are too few pages: %v", i, n, e)
			}
		}
	}
	if s, e := store.Paced(small(), api.Pace{Buckets: 1 << 20, Links: 1 << 20, Crawl: 1 << 20}); s == nil || e != api.OK {
		t.Errorf("the greatest pace: %v", e)
	}
}

// P10.1: an empty store.
func TestEmpty(t *testing.T) {
	for _, w := range []*world{begun(t), opened(t, small())} {
		must := sight{State: api.State{Now: 1}, Classes: [][2]int{{0, 256}, {0, 128}, {0, 64}}}
		if got := sightOf(w.Store); !reflect.DeepEqual(got, must) {
			t.Errorf("%+v", got)
		}
		if w.Config() != small() || w.Now() != 1 || w.Issued() != 0 || w.Classes() != 3 {
			t.Errorf("%v, now %d, issued %d, %d classes", w.Config(), w.Now(), w.Issued(), w.Classes())
		}
		w.meter(api.Meter{})
		w.why()
		w.lacks("a", "", "a b")
	}
}

// P10.1: New's pace is {8, 3, 4}: a command of one key does as much of each.
func TestNewIsPaced(t *testing.T) {
	one, two := opened(t, full()), paced(t, full(), api.Pace{Buckets: 8, Links: 3, Crawl: 4})
	most := api.Meter{}
	for i, key := range append(names(90), names(90)...) {
		for _, c := range []api.Command{till(set(key, long(i%9)), i%5-1), get(names(90)[i*7%90])} {
			if a, b := told(one.Do(c)), told(two.Do(c)); !reflect.DeepEqual(a, b) {
				t.Errorf("%v, not %v", a, b)
			}
			m := one.Meter()
			two.meter(m)
			most = api.Meter{Buckets: max(most.Buckets, m.Buckets), Links: max(most.Links, m.Links), Crawled: max(most.Crawled, m.Crawled)}
		}
	}
	if !reflect.DeepEqual(sightOf(one.Store), sightOf(two.Store)) {
		t.Error("New's store is another one than Paced's")
	}
	if most != (api.Meter{Buckets: 8, Links: 3, Crawled: 4}) {
		t.Errorf("at most %+v", most)
	}
}

// P10.15: what Classes, Resident and Quota tell of classes that there are not.
func TestNoSuchClass(t *testing.T) {
	w := begun(t)
	w.sets("x", "a")
	w.sets(long(190), "b")
	for _, c := range []int{-1, 3, math.MinInt, math.MaxInt} {
		if w.Resident(c) != 0 || w.Quota(c) != 0 {
			t.Errorf("class %d: %d of %d", c, w.Resident(c), w.Quota(c))
		}
	}
	for c, must := range [][2]int{{1, 192}, {0, 64}, {1, 48}} {
		if w.Resident(c) != must[0] || w.Quota(c) != must[1] {
			t.Errorf("class %d: %d of %d, not %v", c, w.Resident(c), w.Quota(c), must)
		}
	}
	if w.Bytes() != 58+2+58+191 {
		t.Errorf("Bytes: %d", w.Bytes())
	}
}
