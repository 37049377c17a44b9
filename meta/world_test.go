package meta_test

import (
	"fmt"
	"reflect"
	"slices"
	"strconv"
	"strings"
	"testing"

	"granary/api"
	"granary/meta"
	"granary/store"
	"granary/words"
)

// What is refused, said anew.
const (
	bad       = "bad command"
	large     = "object too large for cache"
	noRoom    = "out of memory storing object"
	noNumber  = "cannot increment or decrement non-numeric value"
	noFlag    = "invalid flag"
	doubled   = "duplicate flag"
	badOpaque = "opaque token too long"
	badToken  = "bad token in command line format"
)

// greatest is the greatest number, written down.
const greatest = "18446744073709551615"

// small has classes of 64, 128 and 256 bytes; 64, 32 and 16 a page.
func small() api.Config {
	return api.Config{PageSize: 4096, Pages: 4, Factor: 200, MinChunk: 64, ItemLimit: 256, Hot: 30, Warm: 30}
}

// slow is a pace without a crawler: what is dead stays till it is met.
func slow() api.Pace { return api.Pace{Buckets: 8, Links: 3} }

func usual() api.Pace { return api.Pace{Buckets: 8, Links: 3, Crawl: 4} }

func opened(t *testing.T) *store.Store {
	t.Helper()
	return paced(t, small(), usual())
}

func paced(t *testing.T, c api.Config, p api.Pace) *store.Store {
	t.Helper()
	s, e := store.Paced(c, p)
	if e != api.OK || s == nil {
		t.Fatalf("Paced(%v, %v): %v", c, p, e)
	}
	return s
}

func long(n int) string { return strings.Repeat("x", n) }

// read is the command of a line; its block stands behind a stroke. Large behind it says that the block is too large.
func read(t *testing.T, text string) api.Command {
	t.Helper()
	text, isLarge := strings.CutSuffix(text, " Large")
	line, block, _ := strings.Cut(text, " / ")
	c, n, w := words.Line([]byte(line))
	if w.Kind != 0 || !isLarge && max(n, 0) != len(block) {
		t.Fatalf("%q is no command: %v, a block of %d", text, w, n)
	}
	c.Data, c.Large = []byte(block), isLarge
	return c
}

// flagsOf are flags, each written as its word.
func flagsOf(text ...string) (all []api.Flag) {
	for _, w := range text {
		all = append(all, api.Flag{Letter: w[0], Arg: w[1:], Has: len(w) > 1})
	}
	return all
}

// calls makes a call of the store, as its text says, and shows what is answered: a command's line, or
//
//	tick N    mark KEY MARKS    stamp KEY MARKS [TIME]
func calls(t *testing.T, s *store.Store, text string) string {
	t.Helper()
	w := strings.Fields(text)
	number := func(i int) int {
		n, err := strconv.Atoi(w[i])
		if err != nil {
			t.Fatalf("%q: %v", text, err)
		}
		return n
	}
	switch w[0] {
	case "tick":
		return s.Tick(number(1)).Error()
	case "mark":
		return strconv.FormatBool(s.Mark(w[1], number(2)))
	case "stamp":
		if len(w) > 3 {
			return shown(t, s.Stamp(w[1], number(2), number(3), true))
		}
		return shown(t, s.Stamp(w[1], number(2), 0, false))
	}
	c := read(t, text)
	if c.Verb >= api.MetaGet {
		return shown(t, meta.Do(s, c))
	}
	return shown(t, s.Do(c))
}

// shown is an answer as a text: VA's block stands behind a colon, "-" is for Nothing, "! " stands ahead of what is refused. It looks too whether an answer has the fields of its kind alone.
func shown(t *testing.T, a api.Answer) string {
	t.Helper()
	text := a.Text
	hasBlock := a.Kind == api.Meta && strings.HasPrefix(text, "VA")
	switch a.Kind {
	case api.Meta:
		if hasBlock && len(a.Entries) == 1 {
			text += ": " + string(a.Entries[0].Value)
			a.Entries[0].Value = nil
		}
	case api.Nothing:
		text = "-"
	case api.Refused:
		text = "! " + text
	case api.Values:
		for _, e := range a.Entries {
			text += fmt.Sprintf("%s=%s ", e.Key, e.Value)
		}
		return text + "END"
	case api.Number:
		return strconv.FormatUint(a.Number, 10)
	default:
		text = map[int]string{api.Stored: "STORED", api.NotStored: "NOT_STORED", api.Exists: "EXISTS", api.NotFound: "NOT_FOUND", api.Deleted: "DELETED", api.Touched: "TOUCHED", api.Fine: "OK"}[a.Kind]
	}
	must := api.Answer{Kind: a.Kind}
	if a.Kind == api.Meta || a.Kind == api.Refused {
		must.Text = a.Text
	}
	if hasBlock {
		must.Entries = []api.Entry{{}}
	}
	if len(a.Entries) == 0 {
		a.Entries = nil
	}
	if len(a.Stats) == 0 {
		a.Stats = nil
	}
	if !reflect.DeepEqual(a, must) {
		t.Errorf("an answer has other fields than those of its kind: %+v", a)
	}
	return text
}

// runs: are calls answered so, one behind the other? They stand as pairs: a call, and its answer.
func runs(t *testing.T, s *store.Store, pairs ...string) {
	t.Helper()
	for i := 0; i < len(pairs); i += 2 {
		if got := calls(t, s, pairs[i]); got != pairs[i+1] {
			t.Errorf("%d: %.80q is answered %q, not %q", i/2, pairs[i], got, pairs[i+1])
		}
	}
}

// after makes some calls, parted by semicolons, and does not ask for their answers.
func after(t *testing.T, s *store.Store, script string) *store.Store {
	t.Helper()
	for text := range strings.SplitSeq(script, ";") {
		if text = strings.TrimLeft(text, " "); text != "" {
			calls(t, s, text)
		}
	}
	return s
}

// sight is all that a store tells, the work of its last call too.
type sight struct {
	State      api.State
	Rows       []api.Row
	Len, Bytes int
	Classes    [][2]int // of each class: those that are resident, and its quota
	Meter      api.Meter
	Why        []int
}

func sightOf(s *store.Store) sight {
	v := sight{State: s.State(), Rows: s.Rows(), Len: s.Len(), Bytes: s.Bytes(), Meter: s.Meter(), Why: append([]int{}, s.Why()...)}
	for c := range s.Classes() {
		v.Classes = append(v.Classes, [2]int{s.Resident(c), s.Quota(c)})
	}
	for i := range v.Rows {
		v.Rows[i].Entry.Value = append([]byte{}, v.Rows[i].Entry.Value...)
	}
	return v
}

// alike: do two stores tell the same?
func alike(t *testing.T, what string, got, must *store.Store) {
	t.Helper()
	if g, m := sightOf(got), sightOf(must); !reflect.DeepEqual(g, m) {
		t.Errorf("behind %s the store is\n%+v, not\n%+v", what, g, m)
	}
}

// row is a meta command on a store that some calls were made of, its answer, and the calls that it must make itself.
type row struct{ ahead, command, must, calls string }

// holds: is each command answered so, and is the store behind it, with its Meter and Why, just as behind those calls?
func holds(t *testing.T, rows ...row) {
	t.Helper()
	for _, p := range []api.Pace{usual(), slow(), {Buckets: 1, Links: 1, Crawl: 1}} {
		for _, r := range rows {
			got, must := after(t, paced(t, small(), p), r.ahead), after(t, paced(t, small(), p), r.ahead)
			what := fmt.Sprintf("%.80q, %.80q", r.ahead, r.command)
			if text := calls(t, got, r.command); text != r.must {
				t.Errorf("%s is answered %q, not %q", what, text, r.must)
			}
			after(t, must, r.calls)
			alike(t, what, got, must)
		}
	}
}

// marksOf are the marks stale and won of a key's live item.
func marksOf(t *testing.T, s *store.Store, key string) string {
	t.Helper()
	e, ok := s.Find(key)
	if !ok {
		return "none"
	}
	text := ""
	if e.Stale {
		text += "stale "
	}
	if e.Won {
		text += "won "
	}
	return strings.TrimSpace(text)
}

// crowded is a store whose pages all belong to its last class: for smaller items there is no room.
func crowded(t *testing.T) *store.Store {
	t.Helper()
	s := opened(t)
	for i := range 64 {
		runs(t, s, fmt.Sprintf("set big%03d 0 0 180 / %s", i, long(180)), "STORED")
	}
	if !slices.Equal([]int{s.Quota(0), s.Quota(1), s.Resident(2)}, []int{0, 0, 64}) {
		t.Fatal("there is room yet")
	}
	return s
}

func restored(t *testing.T, c api.Config, st api.State, rows []api.Row) *store.Store {
	t.Helper()
	s, e := store.Restore(c, usual(), st, rows)
	if e != api.OK {
		t.Fatalf("Restore: %v", e)
	}
	return s
}
