package queue_test

import (
	"testing"

	"granary/api"
	"granary/queue"
)

// The chapter's first run, line by line.
func TestRun(t *testing.T) {
	w := begun(t, plain())
	q := w.queue
	a, b, c := w.laid(0, "a"), w.laid(0, "b"), w.laid(0, "c")
	w.is("Push", q.Push(a, api.Hot), api.OK)
	w.is("Push", q.Push(b, api.Hot), api.OK)
	w.is("Push", q.Push(c, api.Hot), api.OK)
	w.head(0, 1, c)
	w.tail(0, 1, a)
	w.holds(0, 1, c, b, a)

	w.ahead(b, c)
	w.behind(b, a)
	w.ahead(c, 0)
	w.behind(a, 0)

	w.is("Shift", q.Shift(a, 1), api.OK)
	w.ahead(c, a)
	w.tail(0, 1, b)
	w.holds(0, 1, a, c, b)

	w.is("Last of a once more", q.Last(a, 1), api.ErrTwice)
	w.holds(0, 1, a, c, b)

	w.is("Drop", q.Drop(c), api.OK)
	w.ahead(b, a)
	w.behind(a, b)
	w.holds(0, 1, a, b)

	w.is("Drop once more", q.Drop(c), api.ErrHandle)
	w.nowhere(c)

	w.is("Shift", q.Shift(b, 3), api.OK)
	w.holds(0, 1, a)
	w.holds(0, 3, b)

	w.is("Push", q.Push(c, 2), api.OK)
	w.is("Last", q.Last(c, 2), api.ErrTwice)
	w.is("Push", q.Push(c, 9), api.ErrArg)
	w.holds(0, 2, c)

	z := w.laid(1, "z")
	w.is("Push", q.Push(z, 1), api.OK)
	w.tail(0, 1, a)
	w.tail(1, 1, z)
	w.holds(0, 1, a)
	w.holds(1, 1, z)
}

func TestRunOfNone(t *testing.T) {
	w := begun(t, plain())
	w.row(0, api.Hot, 2)
	w.head(0, 4, 0)
	w.head(99, 1, 0)
	w.tail(-1, 2, 0)
	w.holds(0, 0)
	w.ahead(0, 0)
	bare, given := w.taken(0), w.laid(0, "g")
	w.is("class.Give", w.set.Give(given), api.OK)
	w.is("Push of a chunk in which nothing was laid", w.queue.Push(bare, 1), api.ErrHandle)
	w.is("Push of a handle that was given", w.queue.Push(given, 1), api.ErrHandle)
}

func TestRunDropping(t *testing.T) {
	w := begun(t, plain())
	row := w.row(0, api.Hot, 5)
	i := 0
	for h := range w.queue.All(0, api.Hot) {
		if h != row[i] {
			t.Errorf("item %d: %d, not %d", i, h, row[i])
		}
		w.is("Drop", w.queue.Drop(h), api.OK)
		i++
	}
	if i != len(row) {
		t.Errorf("%d items were told, not %d", i, len(row))
	}
	w.holds(0, api.Hot)
}

// Examples 1 and 3.
func TestExampleLast(t *testing.T) {
	w := begun(t, plain())
	a, b := w.laid(0, "a"), w.laid(0, "b")
	w.is("Push", w.queue.Push(a, 2), api.OK)
	w.is("Last", w.queue.Last(b, 2), api.OK)
	w.holds(0, 2, a, b)
	w.header(b, 2, a, 0)
}

// Example 2: the only item of a list is shifted to its own kind.
func TestExampleOnly(t *testing.T) {
	w := begun(t, plain())
	for kind := api.Hot; kind <= api.Cold; kind++ {
		row := w.row(1, kind, 1)
		w.stands("Shift of the only item", func() {
			w.is("Shift", w.queue.Shift(row[0], kind), api.OK)
		})
		w.holds(1, kind, row...)
	}
}

// P6.1: New(nil) is refused, and else all lists are empty.
func TestNew(t *testing.T) {
	if q, e := queue.New(nil); q != nil || e != api.ErrArg {
		t.Errorf("New(nil): %v, %v", q, e)
	}
	w := begun(t, plain())
	bare := w.taken(2)
	w.stands("New", func() {
		if _, e := queue.New(w.set); e != api.OK {
			t.Error("New:", e)
		}
	})
	w.is("class.Give", w.set.Give(bare), api.OK)
	for c := range classes {
		for kind := api.Hot; kind <= api.Cold; kind++ {
			w.holds(c, kind)
		}
	}
}

// P6.1: the set is kept: chunks that are taken behind New are good.
func TestSetIsKept(t *testing.T) {
	w := begun(t, plain())
	for c := range classes {
		row := w.row(c, api.Warm, w.set.Quota(c)/2)
		w.holds(c, api.Warm, row...)
	}
}

// P6.2, P6.9: every kind of every class is a list of its own, with Push at the head and Last at the tail.
func TestNineLists(t *testing.T) {
	w := begun(t, plain())
	must := map[[2]int][]api.Handle{}
	for i := range 5 {
		for c := range classes {
			for kind := api.Hot; kind <= api.Cold; kind++ {
				h, name := w.laid(c, "k"), [2]int{c, kind}
				if i%2 == 0 {
					w.is("Push", w.queue.Push(h, kind), api.OK)
					must[name] = append([]api.Handle{h}, must[name]...)
				} else {
					w.is("Last", w.queue.Last(h, kind), api.OK)
					must[name] = append(must[name], h)
				}
			}
		}
	}
	for name, all := range must {
		w.holds(name[0], name[1], all...)
	}
}

// The greatest number of classes: all of them have their lists.
func TestManyClasses(t *testing.T) {
	c := api.Config{PageSize: 1 << 16, Pages: 70, Factor: 112, MinChunk: 64, ItemLimit: 1 << 16}
	w := begun(t, c)
	n := w.set.Classes()
	if n < 50 || n > api.MaxClasses {
		t.Fatal("classes:", n)
	}
	for c := range n {
		w.holds(c, api.Cold, w.row(c, api.Cold, 1)...)
	}
	w.holds(n, api.Cold)
}
