package meta_test

import (
	"fmt"
	"math/rand"
	"strings"
	"testing"

	"granary/api"
	"granary/meta"
	"granary/store"
)

// scene is a way to a line of a verb.
type scene struct {
	ahead string // calls of the store
	verb  int
	flags string // those that lead to the line
	code  string // with VA's length
	value string // that of VA
	facts string // what is told of the item, in any order; # stands for the last token that was issued
	marks string // what stands behind what is told
	hush  bool   // q silences it
}

// asked are the letters that a verb may ask for an item's facts by.
func asked(verb int) string {
	switch verb {
	case api.MetaGet:
		return "kfctshl"
	case api.MetaArith:
		return "kct"
	}
	return "kc"
}

// hits are scenes of MetaGet in which it finds an item.
func hits() []scene {
	const (
		used  = "set a 7 30 3 / abc; tick 4; get a; tick 2"
		fresh = "tick 3; set a 4294967295 0 0; tick 9"
		stale = used + "; md a I"
		won   = used + "; mg a R99"
	)
	return []scene{
		{used, api.MetaGet, "", "HD", "", "ka f7 c1 t24 s3 h1 l2", "", false},
		{used, api.MetaGet, "v", "VA 3", "abc", "ka f7 c1 t24 s3 h1 l2", "", false},
		{used, api.MetaGet, "T5", "HD", "", "ka f7 c1 t5 s3 h1 l2", "", false},
		{used, api.MetaGet, "T0 v", "VA 3", "abc", "ka f7 c1 t-1 s3 h1 l2", "", false},
		{used, api.MetaGet, "T-1", "HD", "", "ka f7 c1 t0 s3 h1 l2", "", false},
		{used, api.MetaGet, "T9223372036854775807", "HD", "", "ka f7 c1 t9223372036854775800 s3 h1 l2", "", false},
		{used, api.MetaGet, "N30 R24", "HD", "", "ka f7 c1 t24 s3 h1 l2", "", false},
		{used, api.MetaGet, "R25", "HD", "", "ka f7 c1 t24 s3 h1 l2", "W", false},
		{used, api.MetaGet, "R25 v T24", "VA 3", "abc", "ka f7 c1 t24 s3 h1 l2", "W", false},
		{fresh, api.MetaGet, "", "HD", "", "ka f4294967295 c1 t-1 s0 h0 l9", "", false},
		{fresh, api.MetaGet, "v R9", "VA 0", "", "ka f4294967295 c1 t-1 s0 h0 l9", "", false},
		{fresh + "; mg a", api.MetaGet, "", "HD", "", "ka f4294967295 c1 t-1 s0 h1 l0", "", false},
		{fresh + "; mg a h; tick 1", api.MetaGet, "", "HD", "", "ka f4294967295 c1 t-1 s0 h1 l1", "", false},
		{stale, api.MetaGet, "", "HD", "", "ka f7 c2 t24 s3 h1 l2", "X W", false},
		{stale, api.MetaGet, "v R99", "VA 3", "abc", "ka f7 c2 t24 s3 h1 l2", "X W", false},
		{stale + "; mg a; tick 1", api.MetaGet, "R99", "HD", "", "ka f7 c2 t23 s3 h1 l1", "X Z", false},
		{won, api.MetaGet, "", "HD", "", "ka f7 c1 t24 s3 h1 l0", "Z", false},
		{won, api.MetaGet, "v R99", "VA 3", "abc", "ka f7 c1 t24 s3 h1 l0", "Z", false},
		// An expiry that is over already, by a time that names it.
		{"tick 2592100; set a 0 0 1 / x", api.MetaGet, "T2592001", "HD", "", "ka f0 c1 t-100 s1 h0 l0", "", false},
	}
}

// misses are scenes of MetaGet in which it finds none.
func misses() []scene {
	const dead = "set a 7 30 3 / abc; tick 30"
	return []scene{
		{"", api.MetaGet, "", "EN", "", "", "", true},
		{"", api.MetaGet, "v T9 R9", "EN", "", "", "", true},
		{dead, api.MetaGet, "", "EN", "", "", "", true},
		{"", api.MetaGet, "N30", "HD", "", "ka f0 c1 t30 s0 h0 l0", "W", false},
		{"tick 6", api.MetaGet, "N0 v", "VA 0", "", "ka f0 c1 t-1 s0 h0 l0", "W", false},
		{dead, api.MetaGet, "N-1 R9 T7", "HD", "", "ka f0 c2 t0 s0 h0 l0", "W", false},
		{dead, api.MetaGet, "N2592001", "HD", "", "ka f0 c2 t2591970 s0 h0 l0", "W", false},
	}
}

// storings are scenes of MetaSet.
func storings() []scene {
	const has = "set b 0 0 1 / y; set a 7 30 3 / abc" // a's token is 2
	return []scene{
		{"", api.MetaSet, "", "HD", "", "ka c#", "", true},
		{has, api.MetaSet, "T9 F4", "HD", "", "ka c#", "", true},
		{has, api.MetaSet, "C2", "HD", "", "ka c#", "", true},
		{has, api.MetaSet, "C1 I", "HD", "", "ka c#", "", true},
		{has, api.MetaSet, "MA C1 I", "HD", "", "ka c#", "", true},
		{has, api.MetaSet, "ME", "NS", "", "ka", "", true},
		{has, api.MetaSet, "ME C2", "NS", "", "ka", "", true},
		{"", api.MetaSet, "MR", "NS", "", "ka", "", true},
		{"", api.MetaSet, "MP", "NS", "", "ka", "", true},
		{has, api.MetaSet, "C1", "EX", "", "ka", "", false},
		{has, api.MetaSet, "C3 I", "EX", "", "ka", "", false},
		{has, api.MetaSet, "C3 MP I", "EX", "", "ka", "", false},
		{"", api.MetaSet, "C1", "NF", "", "ka", "", false},
		{"", api.MetaSet, "C1 ME I", "NF", "", "ka", "", false},
	}
}

// removals are scenes of MetaDelete. Only where a token is issued c is told.
func removals() []scene {
	const has = "set b 0 0 1 / y; set a 7 30 3 / abc"
	return []scene{
		{has, api.MetaDelete, "", "HD", "", "ka", "", true},
		{has, api.MetaDelete, "C2 T9", "HD", "", "ka", "", true},
		{has, api.MetaDelete, "I", "HD", "", "ka c#", "", true},
		{has, api.MetaDelete, "I C2 T9", "HD", "", "ka c#", "", true},
		{has, api.MetaDelete, "C1", "EX", "", "ka", "", false},
		{has, api.MetaDelete, "I C3", "EX", "", "ka", "", false},
		{"", api.MetaDelete, "", "NF", "", "ka", "", true},
		{"", api.MetaDelete, "I C1", "NF", "", "ka", "", true},
	}
}

// countings are scenes of MetaArith.
func countings() []scene {
	const has = "set b 0 0 1 / y; set a 7 30 2 / 99; tick 9; set c 0 0 1 / z"
	return []scene{
		{has, api.MetaArith, "", "HD", "", "ka c# t21", "", true},
		{has, api.MetaArith, "v N0 J5", "VA 3", "100", "ka c# t21", "", false},
		{has, api.MetaArith, "v MD D99 C2", "VA 1", "0", "ka c# t21", "", false},
		{has, api.MetaArith, "T5", "HD", "", "ka c# t5", "", true},
		{has, api.MetaArith, "T0 v", "VA 3", "100", "ka c# t-1", "", false},
		{has, api.MetaArith, "T-1 v", "VA 3", "100", "ka c# t0", "", false},
		{"set a 0 0 1 / 5", api.MetaArith, "", "HD", "", "ka c# t-1", "", true},
		{"tick 3", api.MetaArith, "N8", "HD", "", "ka c# t8", "", true},
		{"tick 3", api.MetaArith, "N0 J0012 v T4", "VA 2", "12", "ka c# t-1", "", false},
		{has, api.MetaArith, "C1 v", "EX", "", "ka", "", false},
		{has, api.MetaArith, "C4 N0 T9", "EX", "", "ka", "", false},
		{"", api.MetaArith, "v T9 J5", "NF", "", "ka", "", true},
		{"", api.MetaArith, "C4", "NF", "", "ka", "", true},
	}
}

func scenes() (all []scene) {
	for _, some := range [][]scene{hits(), misses(), storings(), removals(), countings()} {
		all = append(all, some...)
	}
	return all
}

// play does a scene's command with some flags more, in any order, and tells what is answered, in which order the flags stood, and what the store is then.
func (x scene) play(t *testing.T, r *rand.Rand, more ...string) (string, []string, *store.Store) {
	t.Helper()
	s := after(t, opened(t), x.ahead)
	l := append(strings.Fields(x.flags), more...)
	r.Shuffle(len(l), func(i, k int) { l[i], l[k] = l[k], l[i] })
	a := meta.Do(s, api.Command{Verb: x.verb, Keys: []string{"a"}, Meta: flagsOf(l...), Data: []byte("new")})
	return shown(t, a), l, s
}

// must is the line of a scene, if the flags stand in that order.
func (x scene) must(l []string, issued uint64) string {
	told := map[byte]string{}
	for w := range strings.FieldsSeq(x.facts) {
		told[w[0]] = strings.ReplaceAll(w, "#", fmt.Sprint(issued))
	}
	words := []string{x.code}
	for _, f := range l {
		switch {
		case f[0] == 'O' && x.code != "EN":
			words = append(words, f)
		case told[f[0]] != "" && len(f) == 1:
			words = append(words, told[f[0]])
		}
	}
	text := strings.Join(append(words, strings.Fields(x.marks)...), " ")
	if strings.HasPrefix(text, "VA") {
		text += ": " + x.value
	}
	return text
}

func (x scene) String() string {
	return fmt.Sprintf("verb %d of %q behind %.60q", x.verb, x.flags, x.ahead)
}

// P14.2: each letter with each code of each verb, in many orders, among what leads to that code.
func TestTold(t *testing.T) {
	r := rand.New(rand.NewSource(14))
	for _, x := range scenes() {
		letters := strings.Split(asked(x.verb), "")
		for n := range 60 {
			r.Shuffle(len(letters), func(i, k int) { letters[i], letters[k] = letters[k], letters[i] })
			more := append([]string{}, letters[:r.Intn(len(letters)+1)]...)
			if n == 0 {
				more = append([]string{}, letters...)
			}
			if n%2 == 0 {
				more = append(more, []string{"Oxy", "O0", "O007", "OO", "Ok", "O\xff!", "O" + strings.Repeat("o", 32)}[r.Intn(7)])
			}
			got, l, s := x.play(t, r, more...)
			if must := x.must(l, s.Issued()); got != must {
				t.Errorf("%v, asked %q: %q, not %q", x, l, got, must)
			}
		}
	}
}

// P14.2: each letter alone.
func TestToldAlone(t *testing.T) {
	r := rand.New(rand.NewSource(15))
	for _, x := range scenes() {
		for letter := range strings.SplitSeq(asked(x.verb), "") {
			got, l, s := x.play(t, r, letter)
			if must := x.must(l, s.Issued()); got != must {
				t.Errorf("%v, asked %q: %q, not %q", x, l, got, must)
			}
		}
	}
}

// P14.2: all orders of the flags of a MetaSet, a MetaDelete and a MetaArith.
func TestOrders(t *testing.T) {
	for _, x := range []struct {
		ahead, line, block string
		facts              map[string]string
	}{
		{"", "ms a 1", " / x", map[string]string{"k": "ka", "c": "c1", "Oq": "Oq", "T9": "", "F3": ""}},
		{"set a 0 0 1 / x", "md a", "", map[string]string{"k": "ka", "c": "c2", "Oq": "Oq", "T9": "", "I": ""}},
		{"set a 0 0 1 / 1", "ma a", "", map[string]string{"k": "ka", "c": "c2", "t": "t9", "Oq": "Oq", "T9": ""}},
	} {
		var order func(line, told string)
		order = func(line, told string) {
			if strings.Count(line, " ") == strings.Count(x.line, " ")+len(x.facts) {
				runs(t, after(t, opened(t), x.ahead), line+x.block, told)
			}
			for flag, fact := range x.facts {
				if !strings.Contains(line+" ", " "+flag+" ") {
					order(line+" "+flag, strings.TrimSpace(told+" "+fact))
				}
			}
		}
		order(x.line, "HD")
	}
}

// P14.3: q with each code of each verb. Nothing but the telling hangs on it.
func TestQuiet(t *testing.T) {
	r := rand.New(rand.NewSource(16))
	for _, x := range scenes() {
		for range 12 {
			more := []string{"q"}
			for letter := range strings.SplitSeq(asked(x.verb), "") {
				if r.Intn(2) == 0 {
					more = append(more, letter)
				}
			}
			got, l, s := x.play(t, r, more...)
			must := x.must(l, s.Issued())
			if x.hush {
				must = "-"
			}
			if got != must {
				t.Errorf("%v, asked %q: %q, not %q", x, l, got, must)
			}
			_, _, loud := x.play(t, r)
			alike(t, x.String()+" with q", s, loud)
		}
	}
}

// P14.3: what is refused is told all the same.
func TestQuietRefusals(t *testing.T) {
	runs(t, opened(t), "ms s 1 / x", "HD", "ma s q", "! "+noNumber, "ma s q v", "! "+noNumber, "ms s 0 q Large", "! "+large)
	runs(t, crowded(t), "mg a q N0", "! "+noRoom, "ms a 1 q / x", "! "+noRoom, "ma a q N0", "! "+noRoom)
	s := opened(t)
	for _, verb := range metas() {
		refuses(t, s, api.Command{Verb: verb, Keys: []string{"a"}, Meta: flagsOf("q", "q")}, doubled)
		refuses(t, s, api.Command{Verb: verb, Meta: flagsOf("q")}, bad)
	}
}

// P14.2: numbers have no zeros ahead, whatever stood in the command.
func TestNumbersToldPlainly(t *testing.T) {
	zeros := strings.Repeat("0", 200)
	runs(t, opened(t),
		"ms a 1 F"+zeros+"7 T"+zeros+"9 / x", "HD",
		"mg a f t R"+zeros+"9", "HD f7 t9",
		"mg a t R"+zeros+"10", "HD t9 W",
		"mg a t T-"+zeros, "HD t-1 Z",
		"ms a 1 c C"+zeros+"1 / y", "HD c2",
		"ma n v N-00 J"+zeros+"12", "VA 2: 12",
		"ma n v D"+zeros+"3", "VA 2: 15",
		"mg n t", "HD t-1",
		"ma n v t T"+zeros+"5 O"+strings.Repeat("0", 32), "VA 2 t5 O"+strings.Repeat("0", 32)+": 16")
}
