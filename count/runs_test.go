package count_test

import (
	"testing"

	"granary/api"
	"granary/count"
)

// The table 'Runs', the rows with a Command.
func TestRunsOfCommands(t *testing.T) {
	get := of(api.Get, api.Values, 0, 1)
	get.c.Keys = []string{"a", "b"}
	adds(t, "cmd_get 2 get_hits get_misses", get)
	gat := of(api.Gat, api.Values, 2)
	gat.c.Keys = []string{"a"}
	adds(t, "cmd_get cmd_touch get_misses get_expired touch_misses", gat)
	adds(t, "cmd_set refused", of(api.Set, api.Refused, 0))
	adds(t, "cmd_set cas_badval", of(api.Cas, api.Exists, 0))
	adds(t, "cmd_flush crawled 4", of(api.FlushAll, api.Fine).worked(0, 0, 4))
	adds(t, "cmd_meta cmd_set total_items cas_hits", told(api.MetaSet, "HD c9").with("C5"))
	adds(t, "cmd_meta cmd_set", of(api.MetaSet, api.Nothing).with("C5"))
	adds(t, "cmd_meta", told(api.MetaDelete, "EX", 0))
	adds(t, "cmd_meta delete_hits", told(api.MetaDelete, "HD", 0))
	adds(t, "cmd_meta delete_misses", of(api.MetaDelete, api.Nothing, 1))
	adds(t, "cmd_meta decr_hits", told(api.MetaArith, "HD", 0).with("Md"))
	adds(t, "cmd_meta incr_misses", told(api.MetaArith, "NF", 3).with("Mi"))
	adds(t, "cmd_meta refused", of(api.MetaArith, api.Refused, 0))
	adds(t, "cmd_meta", told(api.MetaGet, "HDX", 7))
	adds(t, "refused", of(25, api.Refused, 0))
}

// The table 'Runs', the rows with numbers.
func TestRunsOfNumbers(t *testing.T) {
	b := count.New()
	b.Add(1, 1<<64-1)
	b.Add(1, 5)
	if n := b.Read(1); n != 1<<64-1 {
		t.Errorf("Read(1) is %d", n)
	}
	b.Set(1, 3)
	has(t, b, "cmd_get 3")

	b = count.New()
	b.Add(31, 1)
	b.Add(0, 1)
	b.Set(-1, 1)
	if n := b.Read(31); n != 0 {
		t.Errorf("Read(31) is %d", n)
	}
	has(t, b, "")
	if a, z, one := count.Name(0), count.Name(31), count.Name(1); a != "" || z != "" || one != "cmd_get" {
		t.Errorf("%q, %q, %q", a, z, one)
	}

	b = count.New()
	b.Set(25, 9)
	b.Add(1, 4)
	b.Reset()
	has(t, b, "curr_items 9")
}

// The examples.
func TestExamples(t *testing.T) {
	l := count.New().Stats()
	if len(l) != 30 || l[0] != (api.StatLine{Name: "cmd_get"}) || l[29] != (api.StatLine{Name: "bad_lines"}) {
		t.Errorf("Stats of a new board: %v", l)
	}
	adds(t, "", call{})
	if w := count.Name(26); w != "bytes" {
		t.Errorf("Name(26) is %q", w)
	}
}
