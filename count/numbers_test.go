package count_test

import (
	"testing"

	"granary/count"
)

// P15.1: the word of each name; what names nothing has none.
func TestNames(t *testing.T) {
	if len(byWord) != names {
		t.Fatalf("the table has %d words", len(byWord))
	}
	for word, name := range byWord {
		if got := count.Name(name); got != word {
			t.Errorf("Name(%d) is %q, not %q", name, got, word)
		}
	}
	for _, name := range noNames() {
		if got := count.Name(name); got != "" {
			t.Errorf("Name(%d) is %q", name, got)
		}
	}
}

// P15.1: each number of a new board is 0.
func TestNew(t *testing.T) {
	if count.New() == nil {
		t.Fatal("New gives none")
	}
	has(t, count.New(), "")
}

// P15.1 and P15.2: each name has a number of its own.
func TestEachName(t *testing.T) {
	for name := 1; name <= names; name++ {
		b, must := count.New(), sums{}
		b.Add(name, 7)
		must[name] = 7
		holds(t, b, must)
		b.Add(name, 0)
		holds(t, b, must)
		b.Add(name, 1<<40)
		must[name] += 1 << 40
		holds(t, b, must)
		b.Set(name, 3)
		must[name] = 3
		holds(t, b, must)
		b.Set(name, 0)
		holds(t, b, sums{})
	}
	b, must := count.New(), sums{}
	for name := 1; name <= names; name++ {
		b.Add(name, uint64(name*name))
		must[name] = uint64(name * name)
	}
	holds(t, b, must)
}

// P15.1: what names nothing has no number, and nothing else changes by it.
func TestNoNames(t *testing.T) {
	for _, name := range noNames() {
		for _, base := range []uint64{0, 5, greatest} {
			b := laid(every(base))
			b.Add(name, 1)
			b.Set(name, 1)
			b.Add(name, greatest)
			holds(t, b, every(base))
			b.Set(name, greatest)
			holds(t, b, every(base))
		}
	}
}

// P15.1: a sum is at most the greatest number.
func TestGreatest(t *testing.T) {
	for _, x := range []struct{ base, n, must uint64 }{
		{0, greatest, greatest},
		{0, greatest - 1, greatest - 1},
		{1, greatest - 1, greatest},
		{1, greatest, greatest},
		{greatest - 1, 0, greatest - 1},
		{greatest - 1, 1, greatest},
		{greatest - 1, 2, greatest},
		{greatest, 0, greatest},
		{greatest, 1, greatest},
		{greatest, 5, greatest},
		{greatest, greatest, greatest},
		{1 << 63, 1<<63 - 1, greatest},
		{1 << 63, 1 << 63, greatest},
		{1<<63 - 1, 1 << 63, greatest},
		{1<<63 - 1, 1<<63 - 1, greatest - 1},
		{1<<63 - 1, 1, 1 << 63},
		{1<<32 - 1, 1, 1 << 32},
		{1<<31 - 1, 1, 1 << 31},
	} {
		for name := 1; name <= names; name++ {
			b, must := count.New(), sums{}
			b.Add(name, x.base)
			b.Add(name, x.n)
			must[name] = x.must
			holds(t, b, must)
		}
		b := laid(every(x.base))
		for name := 1; name <= names; name++ {
			b.Add(name, x.n)
		}
		holds(t, b, every(x.must))
	}
}

// P15.1: Set lays what it is given, also below what was there and behind a sum that was too great.
func TestSet(t *testing.T) {
	for name := 1; name <= names; name++ {
		b, must := count.New(), sums{}
		for _, n := range []uint64{greatest, 0, 1, 1 << 63, greatest - 1, 9} {
			b.Set(name, n)
			must[name] = n
			holds(t, b, must)
			b.Add(name, 1)
			must.add(name, 1)
			holds(t, b, must)
			b.Add(name, greatest)
			must[name] = greatest
			holds(t, b, must)
		}
	}
}

// P15.2: Reset leaves the three that tell what is there now, and counting goes on behind it.
func TestReset(t *testing.T) {
	b := count.New()
	b.Reset()
	has(t, b, "")
	for _, base := range []uint64{1, 77, 1 << 63, greatest} {
		b := laid(every(base))
		left := sums{25: base, 26: base, 28: base}
		for range 2 {
			b.Reset()
			holds(t, b, left)
		}
		for name := 1; name <= names; name++ {
			b.Add(name, 2)
			left.add(name, 2)
		}
		holds(t, b, left)
	}
	for name := 1; name <= names; name++ {
		b, must := count.New(), sums{}
		b.Set(name, 6)
		b.Reset()
		if name == 25 || name == 26 || name == 28 {
			must[name] = 6
		}
		holds(t, b, must)
	}
}

// P15.2: what Read and Stats tell changes nothing.
func TestTellingChangesNothing(t *testing.T) {
	b := laid(every(4))
	for range 3 {
		holds(t, b, every(4))
	}
}
