package crawl_test

import (
	"math"
	"strings"
	"testing"

	"granary/api"
	"granary/crawl"
	"granary/queue"
	"granary/tide"
)

// P9.1, R3: what New refuses; nothing has changed behind it, and neither function is called.
func TestNewRefuses(t *testing.T) {
	w := begun(t, 1)
	w.row(api.Cold, "ab")
	type dead = func(api.Handle) bool
	type take = func(api.Handle)
	for _, x := range []struct {
		what    string
		q       *queue.Set
		w       *tide.Wheel
		classes int
		dead    dead
		take    take
	}{
		{"without lists", nil, w.wheel, 1, w.dead, w.take},
		{"without a wheel", w.queue, nil, 1, w.dead, w.take},
		{"without dead", w.queue, w.wheel, 1, nil, w.take},
		{"without take", w.queue, w.wheel, 1, w.dead, nil},
		{"of no class", w.queue, w.wheel, 0, w.dead, w.take},
		{"of less than no class", w.queue, w.wheel, -1, w.dead, w.take},
		{"of one class too many", w.queue, w.wheel, api.MaxClasses + 1, w.dead, w.take},
		{"of far too many classes", w.queue, w.wheel, math.MaxInt, w.dead, w.take},
		{"of the least number", w.queue, w.wheel, math.MinInt, w.dead, w.take},
		{"of nothing", nil, nil, 0, nil, nil},
	} {
		w.stands("New "+x.what, func() {
			if c, e := crawl.New(x.q, x.w, x.classes, x.dead, x.take); c != nil || e != api.ErrArg {
				t.Errorf("New %s: %v, %v", x.what, c, e)
			}
		})
	}
	if len(w.asked)+len(w.taken) > 0 {
		t.Error("New has called a function")
	}
	w.place(0, 0)
}

// P9.1: New keeps what it is given, begins no round and changes nothing.
func TestNewKeeps(t *testing.T) {
	w := begun(t, 1)
	row := w.row(api.Cold, "ab")
	w.wheel.Set(row[1], 1)
	w.stands("New", func() {
		c, e := crawl.New(w.queue, w.wheel, 1, w.dead, w.take)
		w.is("New", e, api.OK)
		w.crawl = c
	})
	if len(w.asked)+len(w.taken) > 0 {
		t.Error("New has called a function")
	}
	w.place(0, 0)
	w.row(api.Cold, "z")
	w.looks(9, "babz")
	w.place(0, 1)
}

// wide has as many classes as there may be.
func wide() api.Config {
	return api.Config{PageSize: 4096, Pages: api.MaxClasses, Factor: 105, MinChunk: 64, ItemLimit: 2496}
}

// P9.1, P9.2: classes 1 and MaxClasses; lists of classes beyond are not gone through.
func TestNewTakes(t *testing.T) {
	for _, n := range []int{1, 2, api.MaxClasses - 1, api.MaxClasses} {
		w := over(t, wide(), n)
		if w.set.Classes() != api.MaxClasses {
			t.Fatalf("a set of %d classes", w.set.Classes())
		}
		all := ""
		for c := range api.MaxClasses {
			name := string(rune('0' + c))
			w.pushed(name, c, api.Hot+c%3, 0)
			all += name
		}
		for c := range n {
			w.looks(1, all[c:c+1])
			w.place(c, 0)
		}
		w.looks(1, "")
		w.place(0, 1)
		w.looks(99, all[:n])
		w.place(0, 2)
	}
}

// P9.1, P9.2: a Crawler of more classes than the lists have goes through the lists that there are.
func TestMoreClassesThanLists(t *testing.T) {
	w := begun(t, api.MaxClasses)
	for c := range classes {
		w.pushed(strings.Repeat("x", c+1), c, api.Hot, 0)
	}
	w.step(1, 3, 3, 0, "xxxxxx", "")
	w.place(2, 0)
	w.looks(1, "")
	w.place(0, 1)
}

// R4: Crawlers over the same lists know nothing of each other's rounds.
func TestTwo(t *testing.T) {
	w := begun(t, 1)
	w.row(api.Cold, "abc")
	one := w.crawl
	two, e := crawl.New(w.queue, w.wheel, 1, w.dead, w.take)
	w.is("New", e, api.OK)
	w.looks(2, "ab")
	w.crawl = two
	w.looks(9, "abc")
	w.place(0, 1)
	two.Again()
	w.crawl = one
	w.place(0, 0)
	w.looks(9, "c")
	w.place(0, 1)
}
