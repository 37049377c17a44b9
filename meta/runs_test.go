package meta_test

import (
	"slices"
	"strings"
	"testing"

	"granary/api"
	"granary/meta"
)

// The table 'Runs', row by row.
func TestRuns(t *testing.T) {
	runs(t, opened(t), "ms a 1 T30 c / x", "HD c1", "mg a v Oxy k", "VA 1 Oxy ka: x", "mg a f c t s h l", "HD f0 c1 t30 s1 h1 l0")
	runs(t, opened(t), "ms b 1 F7 / y", "HD", "mg b h l f", "HD h0 l0 f7", "mg b h", "HD h1")
	runs(t, opened(t), "ms a 1 / x", "HD", "md a I", "HD", "mg a v", "VA 1 X W: x", "mg a v", "VA 1 X Z: x", "get a", "a=x END",
		"touch a 9", "TOUCHED", "mg a", "HD X Z", "ms a 1 / z", "HD", "mg a", "HD")
	runs(t, opened(t), "mg b N30 v t", "VA 0 t30 W: ", "mg b v t", "VA 0 t30 Z: ", "ms b 0", "HD", "mg b v", "VA 0: ")
	runs(t, opened(t), "ms a 1 / x", "HD", "ms a 1 C1 c / y", "HD c2", "ms a 1 C1 / z", "EX", "ms a 1 C1 I / z", "HD", "mg a v", "VA 1 X W: z",
		"ms a 1 C9 I / w", "EX", "ms q 1 C9 / w", "NF")
	runs(t, opened(t), "ms a 1 ME / x", "HD", "ms a 1 ME / x", "NS", "ms q 1 MR / x", "NS", "ms a 1 Ma / !", "HD")
	runs(t, opened(t), "ms a 1 T10 / x", "HD", "mg a R5", "HD", "mg a R30 t", "HD t10 W", "mg a R30 t", "HD t10 Z")
	runs(t, opened(t), "mg q", "EN", "mg q q", "-", "mg q k Oz", "EN", "mn", "MN")
	runs(t, opened(t), "ma n", "NF", "ma n q", "-", "ma n N0 J5", "HD", "ma n v c", "VA 1 c2: 6", "ma n MD D9 v", "VA 1: 0", "ma n T5 t", "HD t5")
	runs(t, opened(t), "ms s 1 / x", "HD", "ma s", "! "+noNumber, "ma s C1", "! "+noNumber, "ma s C2 O1 k", "EX O1 ks")
	runs(t, opened(t), "ms a 1 / x", "HD", "md a C9", "EX", "md a C1 q", "-", "md a q", "-", "md a O1", "NF O1")
	runs(t, opened(t), "ms a 1 / x", "HD", "ms a 0 Large", "! "+large, "mg a", "EN")
}

// The table 'Runs': what is wrong.
func TestRunsOfWrong(t *testing.T) {
	s := opened(t)
	refuses(t, s, api.Command{Verb: api.MetaGet, Keys: []string{"a"}, Meta: flagsOf("v", "v")}, doubled)
	refuses(t, s, api.Command{Verb: api.MetaGet, Keys: []string{"a"}, Meta: flagsOf("z")}, noFlag)
	refuses(t, s, api.Command{Verb: api.MetaSet, Keys: []string{"a"}, Meta: flagsOf("Tx"), Data: []byte("x")}, badToken)
	refuses(t, s, api.Command{Verb: api.MetaGet, Keys: []string{strings.Repeat("k", 251)}}, bad)
	refuses(t, s, api.Command{Verb: api.MetaGet}, bad)
}

// Behind "mg b N30" Meter and Why are those of its Set.
func TestRunOfVivifying(t *testing.T) {
	for _, ahead := range []string{"", "get a", "set b 0 -1 1 / x", "set b 0 0 1 / x; flush_all", "mg q"} {
		s, must := after(t, paced(t, small(), slow()), ahead), after(t, paced(t, small(), slow()), ahead)
		runs(t, s, "mg b N30", "HD W")
		if !slices.Equal(s.Why(), []int{1}) {
			t.Errorf("behind %q Why is %d", ahead, s.Why())
		}
		runs(t, must, "get b", "END", "set b 0 30 0", "STORED", "mark b 4", "true")
		alike(t, "mg b N30", s, must)
	}
}

// The examples.
func TestExamples(t *testing.T) {
	s := after(t, opened(t), "set a 0 0 1 / x")
	a := meta.Do(s, read(t, "mg a v Oxy k"))
	if a.Kind != api.Meta || a.Text != "VA 1 Oxy ka" || len(a.Entries) != 1 || string(a.Entries[0].Value) != "x" || a.Entries[0].Key != "" || a.Entries[0].Token != 0 {
		t.Errorf("%+v", a)
	}
	s = after(t, opened(t), "set b 0 0 1 / 1"+strings.Repeat("; incr b 1", 6))
	runs(t, s, "ms a 1 T30 c / x", "HD c8")
	for _, p := range []api.Pace{usual(), slow()} {
		s = after(t, paced(t, small(), p), "tick 5; set a 0 9 1 / x")
		runs(t, s, "mg a T-1 t", "HD t0", "mg a", "EN", "get a", "END")
	}
}
