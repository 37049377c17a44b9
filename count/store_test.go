package count_test

import (
	"strings"
	"testing"

	"granary/api"
	"granary/count"
	"granary/meta"
	"granary/store"
	"granary/words"
)

// runs does commands on a store, one behind the other, and counts what came of each. Blocks stand behind a stroke.
func runs(t *testing.T, commands string) *count.Board {
	t.Helper()
	s, e := store.Paced(api.Config{PageSize: 4096, Pages: 4, Factor: 200, MinChunk: 64, ItemLimit: 256, Hot: 30, Warm: 30}, api.Pace{Buckets: 8, Links: 3})
	if e != api.OK {
		t.Fatal(e)
	}
	b := count.New()
	for _, text := range strings.Split(commands, "; ") {
		line, block, _ := strings.Cut(text, " / ")
		c, _, w := words.Line([]byte(line))
		if w.Kind != 0 {
			t.Fatalf("%q is no command: %v", text, w)
		}
		c.Data = []byte(block)
		do := s.Do
		if c.Verb >= api.MetaGet {
			do = func(c api.Command) api.Answer { return meta.Do(s, c) }
		}
		a := do(c)
		b.Command(c, a, s.Why(), s.Meter())
	}
	return b
}

// What commands add that a store has done, and meta over it. Its pace is without a crawler: what is dead stays till it is met.
func TestOverAStore(t *testing.T) {
	for _, x := range []struct{ commands, must string }{
		{"set a 0 0 1 / x; get a b; gets a a", "cmd_set total_items cmd_get 4 get_hits 3 get_misses"},
		{"set a 0 -1 1 / x; get a; get a", "cmd_set total_items cmd_get 2 get_misses 2 get_expired"},
		{"set a 0 0 1 / x; gat -1 a a; gat 0 a", "cmd_set total_items cmd_get 3 get_hits get_misses 2 get_expired cmd_touch 3 touch_hits touch_misses 2"},
		{"set a 0 0 1 / x; flush_all; gats 0 a", "cmd_set total_items cmd_flush cmd_get get_misses get_flushed cmd_touch touch_misses"},
		{"set a 0 0 1 / 1; incr a 1; decr a 1; incr b 1; decr b 1", "cmd_set total_items incr_hits decr_hits incr_misses decr_misses"},
		{"set a 0 0 1 / x; incr a 1; cas a 0 0 1 1 / y; cas a 0 0 1 1 / y", "cmd_set 3 total_items 2 refused cas_hits cas_badval"},
		{"cas a 0 0 1 1 / y; touch a 0; delete a; add a 0 0 1 / x; add a 0 0 1 / x; touch a 0; delete a", "cmd_set 3 cas_misses total_items cmd_touch 2 touch_misses touch_hits delete_misses delete_hits"},
		{"version; verbosity 1; quit", ""},
		{"mg a; mg a N0; mg a v; mg a q", "cmd_meta 4 cmd_get 4 get_misses 2 get_hits 2"},
		{"ms a 1 T-1 / x; mg a; mg a", "cmd_meta 3 cmd_set total_items cmd_get 2 get_misses 2 get_expired"},
		{"ms a 1 / x; ms a 1 q / x; ms a 1 C2 / x; ms a 1 C2 / x; ms b 1 C2 / x; ms a 1 ME / x", "cmd_meta 6 cmd_set 6 total_items 2 cas_hits cas_badval cas_misses"},
		{"ms a 1 / x; md a C9; md a q; md a q; md a", "cmd_meta 5 cmd_set total_items delete_hits delete_misses 2"},
		{"ma n; ma n N0 J5; ma n; ma n MD q; ma n C9; ma n MD C9 N0", "cmd_meta 6 incr_misses 2 incr_hits decr_hits"},
		{"ms s 1 / x; ma s; ma s MD", "cmd_meta 3 cmd_set total_items refused 2"},
	} {
		b := runs(t, x.commands)
		if got := read(b); got != sumsOf(x.must) {
			t.Errorf("%s: %q, not %q", x.commands, shown(got), x.must)
		}
	}
}
