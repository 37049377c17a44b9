package reply_test

import (
	"slices"
	"testing"

	"granary/api"
	"granary/reply"
)

// kindsOf is the chapter's table turned round: the kinds of a verb.
func kindsOf(c api.Command) []int {
	var l []int
	for kind, of := range map[int][]int{
		api.Values:    {api.Get, api.Gets, api.Gat, api.Gats},
		api.Stored:    {api.Set, api.Add, api.Replace, api.Append, api.Prepend, api.Cas},
		api.NotStored: {api.Set, api.Add, api.Replace, api.Append, api.Prepend},
		api.Exists:    {api.Cas},
		api.NotFound:  {api.Cas, api.Delete, api.Incr, api.Decr, api.Touch},
		api.Deleted:   {api.Delete},
		api.Touched:   {api.Touch},
		api.Number:    {api.Incr, api.Decr},
		api.Fine:      {api.FlushAll, api.Verbosity},
		api.Told:      {api.Version},
		api.Stat:      {api.Stats},
		api.Reset:     {api.Stats},
		api.Meta:      {api.MetaGet, api.MetaSet, api.MetaDelete, api.MetaArith, api.MetaNoop},
		api.Nothing:   {api.Quit, api.MetaGet, api.MetaSet, api.MetaDelete, api.MetaArith},
	} {
		if slices.Contains(of, c.Verb) && !(kind == api.Stat && c.What == "reset") && !(kind == api.Reset && c.What != "reset") {
			l = append(l, kind)
		}
	}
	if c.Verb >= 1 && c.Verb <= verbs && c.Verb != api.Quit {
		l = append(l, api.Refused)
	}
	return l
}

// some are answers of a kind that would be right of a verb that has it, with their bytes.
func some(c api.Command, kind int) (api.Answer, string) {
	r := api.Answer{Kind: kind}
	word := map[int]string{api.Stored: "STORED", api.NotStored: "NOT_STORED", api.Exists: "EXISTS", api.NotFound: "NOT_FOUND", api.Deleted: "DELETED", api.Touched: "TOUCHED", api.Fine: "OK", api.Reset: "RESET"}
	switch kind {
	case api.Values:
		return r, "END\r\n"
	case api.Number:
		return number(7), "7\r\n"
	case api.Told:
		return told("x"), "VERSION x\r\n"
	case api.Refused:
		return refused("ERROR"), "ERROR\r\n"
	case api.Nothing:
		return r, ""
	case api.Stat:
		return r, "END\r\n"
	case api.Meta:
		code := "HD"
		if c.Verb == api.MetaNoop {
			code = "MN"
		}
		return meta(code), code + "\r\n"
	}
	return r, word[kind] + "\r\n"
}

// commands has each verb, stats with and without what it is asked for.
func commands() []api.Command {
	var l []api.Command
	for v := 1; v <= verbs; v++ {
		l = append(l, cmd(v, "a"), cmd(v))
	}
	return append(l, what("reset"), what("x"), what("RESET"), what("reset "))
}

// P13.1: every verb and every kind.
func TestKinds(t *testing.T) {
	for _, c := range commands() {
		all := kindsOf(c)
		for k := api.Stored; k <= api.Meta; k++ {
			r, text := some(c, k)
			if slices.Contains(all, k) {
				fits(t, c, r, text)
			} else {
				unfit(t, c, r)
			}
		}
		for _, k := range []int{least, -1, 0, api.Meta + 1, greatest} {
			unfit(t, c, kind(k))
			unfit(t, c, api.Answer{Kind: k, Text: "ERROR"})
		}
	}
}

// What other fields of a command say is not looked at.
func TestOtherFields(t *testing.T) {
	for _, c := range commands() {
		other := api.Command{Verb: c.Verb, Keys: c.Keys, Flags: 9, Exptime: -9, Token: 9, Delta: 9, Data: []byte("x"), Large: true, Meta: []api.Flag{{Letter: 'q'}}, What: c.What}
		if c.Verb != api.Stats {
			other.What = "reset"
		}
		for _, k := range kindsOf(c) {
			r, text := some(c, k)
			fits(t, other, r, text)
		}
	}
}

// P13.1: fields that the kind does not use are zero; empty lists are as none.
func TestUnused(t *testing.T) {
	uses := map[int]string{api.Values: "E", api.Number: "N", api.Told: "T", api.Refused: "T", api.Stat: "S", api.Meta: "TE"}
	for _, c := range commands() {
		for _, k := range kindsOf(c) {
			r, text := some(c, k)
			empty := r
			empty.Entries, empty.Stats = []api.Entry{}, []api.StatLine{}
			fits(t, c, empty, text)
			for field, turned := range map[rune]api.Answer{
				'E': {Kind: k, Entries: []api.Entry{{}}, Number: r.Number, Text: r.Text},
				'N': {Kind: k, Number: 1, Text: r.Text},
				'T': {Kind: k, Number: r.Number, Text: "ERROR"},
				'S': {Kind: k, Number: r.Number, Text: r.Text, Stats: []api.StatLine{{Name: "a"}}},
			} {
				if !slices.Contains([]rune(uses[k]), field) {
					unfit(t, c, turned)
				}
			}
		}
	}
	for _, e := range []api.Entry{{Key: "a"}, {Value: []byte("x")}, {Token: 1}} {
		unfit(t, cmd(api.Set, "a"), api.Answer{Kind: api.Stored, Entries: []api.Entry{e}})
	}
	unfit(t, cmd(api.Set, "a"), api.Answer{Kind: api.Stored, Number: api.MaxNumber})
	unfit(t, cmd(api.Set, "a"), api.Answer{Kind: api.Stored, Text: "\x00"})
	unfit(t, cmd(api.Set, "a"), api.Answer{Kind: api.Stored, Stats: []api.StatLine{{}}})
}

// P13.1, P13.4: a verb that is none has no reply.
func TestNoVerb(t *testing.T) {
	for _, v := range []int{least, -1, 0, verbs + 1, verbs + 2, greatest} {
		for _, c := range []api.Command{cmd(v), cmd(v, "a"), {Verb: v, What: "reset"}} {
			for k := -1; k <= api.Meta+1; k++ {
				r, _ := some(c, k)
				unfit(t, c, r)
				unfit(t, c, kind(k))
			}
			for _, raw := range []string{"", "E", "ERROR\r\n", "END\r\n", "x"} {
				bad(t, c, raw)
				bad(t, quiet(c), raw)
			}
		}
	}
}

// P13.2, P13.4: with Noreply, and of a quit, nothing is told and nothing read.
func TestNoReply(t *testing.T) {
	for _, raw := range []string{"", "E", "ERROR\r\n", "anything", "\x00", many(3000)} {
		for v := 1; v <= verbs; v++ {
			wants(t, quiet(cmd(v, "a")), raw)
		}
		wants(t, cmd(api.Quit), raw)
		wants(t, quiet(what("reset")), raw)
	}
	for _, s := range samples() {
		if b, e := reply.Bytes(quiet(s.c), s.r); len(b) != 0 || e != api.OK {
			t.Errorf("verb %d, Noreply: %q, %v", s.c.Verb, b, e)
		}
		wants(t, quiet(s.c), s.text)
	}
	unfit(t, cmd(api.Quit), refused("ERROR"))
	unfit(t, cmd(api.MetaNoop), kind(api.Nothing))
}

// The words of kinds that no verb has, and of other verbs, are no replies.
func TestOthersWords(t *testing.T) {
	for _, c := range commands() {
		all := kindsOf(c)
		for k := api.Stored; k <= api.Meta; k++ {
			r, text := some(c, k)
			// Values and Stat without a line are the same bytes.
			alike := text == "END\r\n" && (slices.Contains(all, api.Values) || slices.Contains(all, api.Stat))
			if k == api.Nothing || c.Verb == api.Quit || alike && !slices.Contains(all, k) {
				continue
			}
			if slices.Contains(all, k) {
				reads(t, c, text, r, len(text))
			} else {
				bad(t, c, text)
			}
		}
	}
}
