package count_test

import (
	"testing"

	"granary/api"
)

// P15.3: a MetaGet counts by the first number of why alone, whatever it is told.
func TestMetaGet(t *testing.T) {
	for _, text := range texts() {
		adds(t, "cmd_meta", told(api.MetaGet, text))
		adds(t, "cmd_meta cmd_get get_hits", told(api.MetaGet, text, 0, 1, 2))
		adds(t, "cmd_meta cmd_get get_misses", told(api.MetaGet, text, 1, 0))
		adds(t, "cmd_meta cmd_get get_misses get_expired", told(api.MetaGet, text, 2, 0))
		adds(t, "cmd_meta cmd_get get_misses get_flushed", told(api.MetaGet, text, 3, 0))
		adds(t, "cmd_meta", told(api.MetaGet, text, 4, 0))
		adds(t, "cmd_meta", told(api.MetaGet, text, -1, 0))
	}
	adds(t, "cmd_meta cmd_get get_misses", of(api.MetaGet, api.Nothing, 1))
	adds(t, "cmd_meta cmd_get get_misses refused", of(api.MetaGet, api.Refused, 1))
}

// P15.3: what a MetaSet came to is told by its code, with C what came of the token.
func TestMetaSet(t *testing.T) {
	for _, why := range whys() {
		adds(t, "cmd_meta cmd_set total_items", told(api.MetaSet, "HD", why...))
		adds(t, "cmd_meta cmd_set", told(api.MetaSet, "EX", why...))
		adds(t, "cmd_meta cmd_set", told(api.MetaSet, "NF", why...))
		for _, text := range []string{"NS", "VA", "EN", "MN", "", " HD", " EX", "HDX", "EXX", "NFX", "hd", "HD\tc9"} {
			adds(t, "cmd_meta cmd_set", told(api.MetaSet, text, why...))
			adds(t, "cmd_meta cmd_set", told(api.MetaSet, text, why...).with("C5"))
		}
		for _, flags := range [][]string{{"C5"}, {"C"}, {"T30", "c", "C0"}, {"C1", "C2"}, {"C1", "q"}} {
			for _, more := range []string{"", " ", " c9", " O1 ka"} {
				adds(t, "cmd_meta cmd_set total_items cas_hits", told(api.MetaSet, "HD"+more, why...).with(flags...))
				adds(t, "cmd_meta cmd_set cas_badval", told(api.MetaSet, "EX"+more, why...).with(flags...))
				adds(t, "cmd_meta cmd_set cas_misses", told(api.MetaSet, "NF"+more, why...).with(flags...))
			}
		}
	}
	adds(t, "cmd_meta cmd_set refused", of(api.MetaSet, api.Refused, 0).with("C5"))
	adds(t, "cmd_meta cmd_set total_items", told(api.MetaSet, "HD", 0).with("c", "OC5", "MD"))
}

// P15.3: a code is what an answer of the kind Meta has; others have none, whatever they say.
func TestNoCode(t *testing.T) {
	for _, kind := range answers() {
		if kind == api.Meta {
			continue
		}
		refused := ""
		if kind == api.Refused {
			refused = " refused"
		}
		for _, text := range texts() {
			x := of(api.MetaSet, kind, 0).with("C5")
			x.a.Text = text
			adds(t, "cmd_meta cmd_set"+refused, x)
			x.c.Verb = api.MetaDelete
			adds(t, "cmd_meta delete_hits"+refused, x)
		}
		x := of(api.MetaArith, kind, 0)
		x.a.Text = "EX"
		if kind == api.Refused {
			adds(t, "cmd_meta refused", x)
		} else {
			adds(t, "cmd_meta incr_hits", x)
		}
	}
}

// P15.3: a MetaDelete counts by the first number of why; a hit whose token was another is none.
func TestMetaDelete(t *testing.T) {
	for _, text := range []string{"HD", "HD c9", "NF", "NS", "VA 1", "EN", "MN", "", " EX", "EXX", "EX\t", "ex", "HD EX"} {
		adds(t, "cmd_meta delete_hits", told(api.MetaDelete, text, 0, 1))
	}
	for _, text := range []string{"EX", "EX ", "EX O1 ka"} {
		adds(t, "cmd_meta", told(api.MetaDelete, text, 0, 1))
	}
	for _, text := range texts() {
		for why := 1; why <= 3; why++ {
			adds(t, "cmd_meta delete_misses", told(api.MetaDelete, text, why, 0))
		}
		for _, why := range [][]int{nil, {-1, 0}, {4, 0}, {5, 1}} {
			adds(t, "cmd_meta", told(api.MetaDelete, text, why...))
		}
	}
	adds(t, "cmd_meta delete_hits", of(api.MetaDelete, api.Nothing, 0).with("C5", "MD"))
	adds(t, "cmd_meta delete_misses refused", of(api.MetaDelete, api.Refused, 2))
}

// P15.3: a MetaArith counts as incr, or as decr by the first M of its flags.
func TestMetaArith(t *testing.T) {
	for _, x := range []struct {
		group string
		flags []string
	}{
		{"incr", nil}, {"incr", []string{"M"}}, {"incr", []string{"MI"}}, {"incr", []string{"Mi"}}, {"incr", []string{"D7"}}, {"incr", []string{"mD"}}, {"incr", []string{"MID"}}, {"incr", []string{"M D"}}, {"incr", []string{"Mx"}},
		{"incr", []string{"MI", "MD"}}, {"incr", []string{"M", "Md"}}, {"incr", []string{"D7", "Mi", "MD"}},
		{"decr", []string{"MD"}}, {"decr", []string{"Md"}}, {"decr", []string{"MDx"}}, {"decr", []string{"Mdecr"}}, {"decr", []string{"MDI"}}, {"decr", []string{"q", "D7", "Md"}},
		{"decr", []string{"MD", "MI"}}, {"decr", []string{"Md", "M"}}, {"decr", []string{"v", "MD", "c", "Mi"}},
	} {
		for _, text := range []string{"HD", "HD c9", "VA 1", "NF", "NS", "EN", "MN", "", " EX", "EXX", "ex"} {
			adds(t, "cmd_meta "+x.group+"_hits", told(api.MetaArith, text, 0, 1).with(x.flags...))
		}
		for _, text := range []string{"EX", "EX ", "EX O1 ka"} {
			adds(t, "cmd_meta", told(api.MetaArith, text, 0, 1).with(x.flags...))
		}
		for _, text := range texts() {
			for why := 1; why <= 3; why++ {
				adds(t, "cmd_meta "+x.group+"_misses", told(api.MetaArith, text, why, 0).with(x.flags...))
			}
			for _, why := range [][]int{nil, {-1, 0}, {4, 0}, {5, 1}} {
				adds(t, "cmd_meta", told(api.MetaArith, text, why...).with(x.flags...))
			}
		}
		adds(t, "cmd_meta "+x.group+"_hits", of(api.MetaArith, api.Nothing, 0).with(x.flags...))
		adds(t, "cmd_meta refused", of(api.MetaArith, api.Refused, 0).with(x.flags...))
		adds(t, "cmd_meta refused "+x.group+"_misses", of(api.MetaArith, api.Refused, 1).with(x.flags...))
	}
}

// P15.3: a MetaNoop is a meta command, and nothing else.
func TestMetaNoop(t *testing.T) {
	for _, why := range whys() {
		for _, text := range texts() {
			adds(t, "cmd_meta", told(api.MetaNoop, text, why...).with("C5", "MD"))
		}
	}
}
