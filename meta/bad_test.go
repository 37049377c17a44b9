package meta_test

import (
	"reflect"
	"strings"
	"testing"

	"granary/api"
	"granary/meta"
	"granary/store"
)

// refuses: is a command refused so, and is the store with its Meter and Why as it was?
func refuses(t *testing.T, s *store.Store, c api.Command, text string) {
	t.Helper()
	must := sightOf(s)
	if got := shown(t, meta.Do(s, c)); got != "! "+text {
		t.Errorf("%.200v is answered %q, not that it is a %q", c, got, text)
	}
	if got := sightOf(s); !reflect.DeepEqual(got, must) {
		t.Errorf("%.200v has changed what the store tells: %+v, not %+v", c, got, must)
	}
}

// metas are the four verbs that have a key.
func metas() []int { return []int{api.MetaGet, api.MetaSet, api.MetaDelete, api.MetaArith} }

// busy is a store whose last call has something to tell in Meter and Why.
func busy(t *testing.T) *store.Store {
	t.Helper()
	s := after(t, paced(t, small(), usual()), "set a 0 0 1 / 1; set dead 0 9 1 / x; md a I; touch dead -1; set b 0 0 1 / 2; set c 0 0 1 / 3; set d 0 0 1 / 4; get a none b")
	if m := s.Meter(); m.Crawled == 0 || len(s.Why()) != 3 {
		t.Fatalf("Meter: %+v, Why: %d", m, s.Why())
	}
	return s
}

// P14.1: a verb that is none of the five.
func TestNoVerb(t *testing.T) {
	s := busy(t)
	for verb := -3; verb <= api.MetaNoop+300; verb++ {
		if verb >= api.MetaGet && verb <= api.MetaNoop {
			continue
		}
		for _, keys := range [][]string{{"a"}, nil, {"a", "b"}, {"a b"}} {
			for _, l := range [][]string{nil, {"v"}, {"k", "k"}, {"z"}} {
				refuses(t, s, api.Command{Verb: verb, Keys: keys, Meta: flagsOf(l...), Data: []byte("x"), Delta: 1}, bad)
			}
		}
	}
	for _, verb := range []int{-1 << 63, 1<<63 - 1, 1 << 32, api.MetaGet + 1<<32, api.MetaGet + 256} {
		refuses(t, s, api.Command{Verb: verb, Keys: []string{"a"}}, bad)
	}
}

// P14.1: not just one key, or none that is legal; whatever the flags are.
func TestNoKey(t *testing.T) {
	s := busy(t)
	wrong := [][]string{nil, {}, {"a", "b"}, {"a", "a"}, {"a", "b", "c"}, {""}, {"", "a"}, {"a", ""}, {strings.Repeat("k", 251)}, {strings.Repeat("k", 252)}, {strings.Repeat("k", 70000)}}
	for b := range 256 {
		if b <= 32 || b == 127 {
			one := string([]byte{byte(b)})
			wrong = append(wrong, []string{one}, []string{"a" + one}, []string{one + "a"}, []string{"a" + one + "b"}, []string{strings.Repeat("k", 249) + one})
		}
	}
	for _, verb := range metas() {
		for _, keys := range wrong {
			for _, l := range [][]string{nil, {"k"}, {"q"}, {"q", "k", "O1"}, {"k", "k"}, {"z"}, {"O"}} {
				refuses(t, s, api.Command{Verb: verb, Keys: keys, Meta: flagsOf(l...), Data: []byte("x")}, bad)
			}
		}
	}
}

// P14.1: keys of 1 and of MaxKey bytes, of all bytes that a key may have, are keys.
func TestKeys(t *testing.T) {
	var all []byte
	for b := range 256 {
		if b > 32 && b != 127 {
			all = append(all, byte(b))
		}
	}
	c := small()
	c.ItemLimit = 512
	for _, key := range []string{"a", "\xff", "!", string(all), string(all) + string(all[:api.MaxKey-len(all)]), strings.Repeat("k", 250)} {
		s := paced(t, c, usual())
		does := func(verb int, must string, l ...string) {
			t.Helper()
			if got := shown(t, meta.Do(s, api.Command{Verb: verb, Keys: []string{key}, Meta: flagsOf(l...), Data: []byte("7")})); got != must {
				t.Errorf("verb %d of %q: %q, not %q", verb, key, got, must)
			}
		}
		does(api.MetaGet, "EN", "k")
		does(api.MetaSet, "HD k"+key, "k")
		does(api.MetaArith, "VA 1 k"+key+": 8", "k", "v")
		does(api.MetaGet, "VA 1 k"+key+": 8", "k", "v")
		does(api.MetaDelete, "HD k"+key, "k")
		does(api.MetaDelete, "NF k"+key, "k")
	}
}

// What words tells of flags, of every verb, wherever the wrong one stands.
func wrongFlags() map[string][]string {
	return map[string][]string{
		noFlag:    {"z", "0", "K", "Q", "\xff", "\x00", " ", "zz"},
		doubled:   {"k|k", "q|q", "Oa|Ob", "k|q|k", "T1|T1", "k|kx"},
		badOpaque: {"O", "O" + strings.Repeat("o", 33), "O" + strings.Repeat("o", 3000)},
		badToken:  {"k1", "q1", "Oa b", "O\x7f", "T", "Tx", "T+1", "T9223372036854775808", "T-"},
	}
}

// P14.1: flags that words tells something of.
func TestWrongFlags(t *testing.T) {
	s := busy(t)
	refusesFlags := func(verb int, text string, l ...api.Flag) {
		t.Helper()
		for _, key := range []string{"a", "none", "dead"} {
			refuses(t, s, api.Command{Verb: verb, Keys: []string{key}, Meta: l, Data: []byte("x"), Large: key == "none"}, text)
		}
	}
	for _, verb := range metas() {
		for text, all := range wrongFlags() {
			for _, l := range all {
				row := flagsOf(strings.Split(l, "|")...)
				refusesFlags(verb, text, row...)
				if l[0] != 'k' && l[0] != 'q' && !strings.Contains(l, "|k") && !strings.Contains(l, "|q") {
					refusesFlags(verb, text, append(flagsOf("q", "k"), row...)...)
					refusesFlags(verb, text, append(row, flagsOf("q", "k")...)...)
				}
			}
		}
		refusesFlags(verb, badToken, api.Flag{Letter: 'k', Has: true})
		refusesFlags(verb, badToken, api.Flag{Letter: 'T', Arg: "1"})
		refusesFlags(verb, badToken, api.Flag{Letter: 'T', Has: true})
		refusesFlags(verb, badOpaque, api.Flag{Letter: 'O', Has: true})
	}
	// The first wrong one is told.
	refusesFlags(api.MetaGet, noFlag, flagsOf("z", "v", "v")...)
	refusesFlags(api.MetaGet, doubled, flagsOf("v", "v", "z")...)
	refusesFlags(api.MetaGet, badToken, flagsOf("v", "Rx", "v")...)
}

// P14.1: letters of other verbs, and what may not stand behind a letter.
func TestFlagsOfEachVerb(t *testing.T) {
	s := busy(t)
	for verb, wrong := range map[int]map[string]string{
		api.MetaGet:    {noFlag: "I F1 C1 MS D1 J1 M", badToken: "v1 f0 c1 t1 s1 h1 l1 N Nx R R-1 R18446744073709551616 R+1"},
		api.MetaSet:    {noFlag: "v f t s h l N0 R1 D1 J1", badToken: "c1 I1 F F-1 F4294967296 C C-1 C18446744073709551616 M MI MD MSS M1"},
		api.MetaDelete: {noFlag: "v f t s h l N0 R1 F1 MS D1 J1", badToken: "c1 I1 C C-1 Cx C18446744073709551616"},
		api.MetaArith:  {noFlag: "I f s h l R1 F1", badToken: "v1 c1 t1 N C C-1 D D-1 D18446744073709551616 J J-1 J18446744073709551616 M MS Ms ME MA MP MR MID"},
	} {
		for text, all := range wrong {
			for l := range strings.SplitSeq(all, " ") {
				refuses(t, s, api.Command{Verb: verb, Keys: []string{"a"}, Meta: flagsOf(l), Data: []byte("x")}, text)
				refuses(t, s, api.Command{Verb: verb, Keys: []string{"a"}, Meta: flagsOf("q", l, "k"), Data: []byte("x")}, text)
			}
		}
	}
}

// P14.9: MetaNoop is never bad, and makes no call.
func TestNoop(t *testing.T) {
	s := busy(t)
	must := sightOf(s)
	for _, keys := range [][]string{nil, {"a"}, {"a b"}, {"a", "b"}, {""}} {
		for _, l := range [][]string{nil, {"q"}, {"k", "k"}, {"z"}, {"O1"}, {"v", "Tx"}} {
			c := api.Command{Verb: api.MetaNoop, Keys: keys, Meta: flagsOf(l...), Data: []byte("x"), Large: true, Noreply: true}
			if got := shown(t, meta.Do(s, c)); got != "MN" {
				t.Errorf("%v is answered %q", c, got)
			}
		}
	}
	if got := sightOf(s); !reflect.DeepEqual(got, must) {
		t.Errorf("MetaNoop has changed what the store tells: %+v, not %+v", got, must)
	}
}

// R1: without a store nothing can be done, and nothing panics.
func TestNoStore(t *testing.T) {
	for _, verb := range metas() {
		for text, l := range map[string][]string{bad: nil, doubled: {"k", "k"}, noFlag: {"z"}} {
			if got := shown(t, meta.Do(nil, api.Command{Verb: verb, Keys: []string{"a"}, Meta: flagsOf(l...)})); got != "! "+text {
				t.Errorf("verb %d, %q: %q", verb, l, got)
			}
		}
	}
	if got := shown(t, meta.Do(nil, api.Command{Verb: api.MetaNoop})); got != "MN" {
		t.Error(got)
	}
}
