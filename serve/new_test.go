package serve_test

import (
	"testing"

	"granary/api"
	"granary/serve"
	"granary/store"
)

// configs are right and wrong ones, each wrong in another way.
func configs() []api.Config {
	all := []api.Config{small(), wide(), {}}
	for _, change := range []func(*api.Config){
		func(c *api.Config) { c.PageSize = 4095 },
		func(c *api.Config) { c.PageSize = 1<<20 + 1 },
		func(c *api.Config) { c.Pages = 0 },
		func(c *api.Config) { c.Pages = 2 },
		func(c *api.Config) { c.Pages = 3 },
		func(c *api.Config) { c.Pages = 1025 },
		func(c *api.Config) { c.Factor = 104 },
		func(c *api.Config) { c.Factor = 401 },
		func(c *api.Config) { c.MinChunk = 63 },
		func(c *api.Config) { c.MinChunk = 513 },
		func(c *api.Config) { c.ItemLimit = -1 },
		func(c *api.Config) { c.ItemLimit = 4097 },
		func(c *api.Config) { c.Factor, c.ItemLimit = 105, 4096 },
		func(c *api.Config) { c.Hot = -1 },
		func(c *api.Config) { c.Hot, c.Warm = 50, 41 },
		func(c *api.Config) { c.Hot, c.Warm = 50, 40 },
		func(c *api.Config) { c.Pages, c.Hot = 2, -1 },
	} {
		c := small()
		change(&c)
		all = append(all, c)
	}
	return all
}

func paces() []api.Pace {
	return []api.Pace{usual(), slow(), {}, {Buckets: -1}, {Links: -1}, {Crawl: -1},
		{Buckets: 1 << 20, Links: 1 << 20, Crawl: 1 << 20}, {Buckets: 1<<20 + 1}, {Links: 1<<20 + 1}, {Crawl: 1<<20 + 1}}
}

// P16.1: what the store refuses, and no server with it.
func TestNew(t *testing.T) {
	seen := map[api.Errno]int{}
	for _, c := range configs() {
		_, must := store.New(c)
		s, e := serve.New(c)
		if e != must || (s != nil) != (e == api.OK) {
			t.Errorf("New(%v): %v, %v, not %v", c, s, e, must)
		}
		seen[e]++
		for _, p := range paces() {
			_, must := store.Paced(c, p)
			s, e := serve.Paced(c, p)
			if e != must || (s != nil) != (e == api.OK) {
				t.Errorf("Paced(%v, %v): %v, %v, not %v", c, p, s, e, must)
			}
		}
	}
	if seen[api.OK] == 0 || seen[api.ErrArg] == 0 || seen[api.ErrMany] == 0 || seen[api.ErrSmall] == 0 {
		t.Errorf("not each of the errors was there: %v", seen)
	}
}

// P16.1: else it has a store and a Board to which nothing was done, and no connection.
func TestNewIsEmpty(t *testing.T) {
	for _, s := range []*serve.Server{opened(t, 0), paced(t, wide(), slow(), 0), paced(t, small(), api.Pace{}, 0)} {
		conns(t, s)
		if s.Now() != 1 || s.Holds(1) != 0 {
			t.Errorf("Now %d, Holds %d", s.Now(), s.Holds(1))
		}
		opens(t, s, 1)
		counts(t, s, "total_connections curr_connections")
		told(t, s, 1, "set a 0 0 1|x|gets a|", "STORED|VALUE a 0 1 1|x|END|")
	}
}

// P16.1: New has the pace of store.New, Paced the one that is given: stats tells how much was crawled.
func TestNewHasItsPace(t *testing.T) {
	const script = "set a 0 0 1|x|set b 0 0 1|y|get a b c|version|touch a 9|get b|flush_all 9|delete a|get b c d e|"
	for _, p := range []api.Pace{usual(), slow(), {Crawl: 1}, {Crawl: 100}} {
		s := paced(t, small(), p, 1)
		x := shadowOf(t, small(), p)
		x.do(opening())
		s.Do(chunk(1, script))
		x.do(chunk(1, script))
		b, _ := s.Do(chunk(1, "stats|"))
		if must, _ := x.do(chunk(1, "stats|")); string(b) != string(must) {
			t.Errorf("%v: stats is told %q, not %q", p, b, must)
		}
	}
	alike(t, "New", opened(t, 1), paced(t, small(), usual(), 1), chunk(1, script), chunk(1, "stats|"))
	quick, idle := paced(t, small(), api.Pace{Crawl: 9}, 1), paced(t, small(), slow(), 1)
	quick.Do(chunk(1, script))
	idle.Do(chunk(1, script))
	if q, i := read(t, quick, 1)["crawled"], read(t, idle, 1)["crawled"]; q == 0 || i != 0 {
		t.Errorf("crawled: %d with a pace of 9, %d with one of 0", q, i)
	}
}

// R4: servers that were made apart know nothing of each other.
func TestApart(t *testing.T) {
	one, two := opened(t, 1), opened(t, 0)
	told(t, one, 1, "set a 0 0 1|x|bogus|get", "STORED|ERROR|")
	does(t, one, tick(5), "")
	conns(t, two)
	opens(t, two, 1)
	told(t, two, 1, "get a|", "END|")
	counts(t, two, "cmd_get get_misses total_connections curr_connections")
	if two.Now() != 1 || two.Holds(1) != 0 {
		t.Errorf("Now %d, Holds %d", two.Now(), two.Holds(1))
	}
	told(t, two, 1, "set b 0 0 1|y|gets b|quit|", "STORED|VALUE b 0 1 1|y|END|")
	conns(t, one, 1)
	told(t, one, 1, " a b|", "VALUE a 0 1|x|END|")
}
