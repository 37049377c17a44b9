package count_test

import (
	"math"
	"math/bits"
	"strconv"
	"strings"
	"testing"

	"granary/api"
	"granary/count"
)

// The table of names, said anew.
const table = `
 1 cmd_get      2 cmd_set      3 cmd_touch          4 cmd_flush         5 cmd_meta        6 get_hits
 7 get_misses   8 get_expired  9 get_flushed       10 delete_hits      11 delete_misses  12 incr_hits
13 incr_misses 14 decr_hits   15 decr_misses       16 cas_hits         17 cas_badval     18 cas_misses
19 touch_hits  20 touch_misses 21 evictions        22 reclaimed        23 refused        24 total_items
25 curr_items  26 bytes       27 total_connections 28 curr_connections 29 crawled        30 bad_lines`

const (
	names    = 30
	greatest = math.MaxUint64
)

// byWord leads from the words of the table to their numbers.
var byWord = func() map[string]int {
	m := map[string]int{}
	all := strings.Fields(table)
	for i := 0; i < len(all); i += 2 {
		n, _ := strconv.Atoi(all[i])
		m[all[i+1]] = n
	}
	return m
}()

// noNames are numbers that name nothing.
func noNames() []int {
	return []int{0, 31, -1, 32, -30, 255, 256, 257, 1 << 32, 1<<32 + 1, 1<<62 + 1, -1<<62 + 1, math.MinInt, math.MinInt + 1, math.MaxInt}
}

// sums has a number for each name; nothing stands at 0.
type sums [names + 1]uint64

func (s *sums) add(name int, n uint64) {
	sum, over := bits.Add64(s[name], n, 0)
	if over > 0 {
		sum = greatest
	}
	s[name] = sum
}

// plus adds what a text says: words, each with its number behind it, or with none for 1.
func (s *sums) plus(text string) {
	name := 0
	for _, w := range strings.Fields(text) {
		n, err := strconv.ParseUint(w, 10, 64)
		if err == nil {
			s.add(name, n-1)
			continue
		}
		if name = byWord[w]; name == 0 {
			panic(w + " is no name")
		}
		s.add(name, 1)
	}
}

func sumsOf(text string) (s sums) {
	s.plus(text)
	return s
}

// read is all that a board tells by Read.
func read(b *count.Board) (s sums) {
	for name := 1; name <= names; name++ {
		s[name] = b.Read(name)
	}
	return s
}

// shown writes numbers down, but for zeros.
func shown(s sums) string {
	var text []string
	for name, n := range s {
		if n != 0 {
			text = append(text, count.Name(name), strconv.FormatUint(n, 10))
		}
	}
	return strings.Join(text, " ")
}

// holds holds a board against numbers, by each call that tells some.
func holds(t *testing.T, b *count.Board, must sums) {
	t.Helper()
	if got := read(b); got != must {
		t.Errorf("the board has %q, not %q", shown(got), shown(must))
	}
	lines := b.Stats()
	if len(lines) != names {
		t.Fatalf("Stats has %d lines", len(lines))
	}
	for i, l := range lines {
		if byWord[l.Name] != i+1 || l.Value != must[i+1] {
			t.Errorf("line %d of Stats is %v, not %d", i, l, must[i+1])
		}
	}
	for _, name := range noNames() {
		if n := b.Read(name); n != 0 {
			t.Errorf("Read(%d) is %d", name, n)
		}
	}
}

// has is holds of what a text says.
func has(t *testing.T, b *count.Board, text string) {
	t.Helper()
	holds(t, b, sumsOf(text))
}

// laid is a board with these numbers.
func laid(s sums) *count.Board {
	b := count.New()
	for name := 1; name <= names; name++ {
		b.Set(name, s[name])
	}
	return b
}

// every has one number for all names.
func every(n uint64) (s sums) {
	for name := 1; name <= names; name++ {
		s[name] = n
	}
	return s
}

// call is what Command is handed.
type call struct {
	c   api.Command
	a   api.Answer
	why []int
	m   api.Meter
}

func (x call) on(b *count.Board) { b.Command(x.c, x.a, x.why, x.m) }

// of is a call of a verb, a kind of answer and what is told of the keys.
func of(verb, kind int, why ...int) call {
	return call{c: api.Command{Verb: verb}, a: api.Answer{Kind: kind}, why: why}
}

// with gives a call flags, each written as its word.
func (x call) with(flags ...string) call {
	x.c.Meta = flagsOf(flags...)
	return x
}

func flagsOf(text ...string) (all []api.Flag) {
	for _, w := range text {
		all = append(all, api.Flag{Letter: w[0], Arg: w[1:], Has: len(w) > 1})
	}
	return all
}

// told is a call with a line of a meta command.
func told(verb int, text string, why ...int) call {
	x := of(verb, api.Meta, why...)
	x.a.Text = text
	return x
}

// worked gives a call a meter.
func (x call) worked(dropped, reclaimed, crawled int) call {
	x.m = api.Meter{Dropped: dropped, Reclaimed: reclaimed, Crawled: crawled}
	return x
}

// adds holds what calls add to a new board, one behind the other.
func adds(t *testing.T, text string, calls ...call) {
	t.Helper()
	b := count.New()
	for _, x := range calls {
		x.on(b)
	}
	has(t, b, text)
}
