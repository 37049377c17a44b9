package count_test

import (
	"strings"

	"granary/api"
)

// kinds are the words of the kinds of answers that the table of verbs names.
var kinds = map[string]int{"Stored": api.Stored, "Exists": api.Exists, "NotFound": api.NotFound, "Deleted": api.Deleted, "Number": api.Number, "Touched": api.Touched}

// rows are those of the table of verbs that go by the kind of the answer: what is added always, and what with a kind.
var rows = map[int]string{
	api.Set:        "cmd_set; Stored: total_items",
	api.Add:        "cmd_set; Stored: total_items",
	api.Replace:    "cmd_set; Stored: total_items",
	api.Append:     "cmd_set; Stored: total_items",
	api.Prepend:    "cmd_set; Stored: total_items",
	api.Cas:        "cmd_set; Stored: total_items cas_hits; Exists: cas_badval; NotFound: cas_misses",
	api.Delete:     "; Deleted: delete_hits; NotFound: delete_misses",
	api.Incr:       "; Number: incr_hits; NotFound: incr_misses",
	api.Decr:       "; Number: decr_hits; NotFound: decr_misses",
	api.Touch:      "cmd_touch; Touched: touch_hits; NotFound: touch_misses",
	api.FlushAll:   "cmd_flush",
	api.MetaGet:    "cmd_meta",
	api.MetaSet:    "cmd_meta cmd_set",
	api.MetaDelete: "cmd_meta",
	api.MetaArith:  "cmd_meta",
	api.MetaNoop:   "cmd_meta",
}

// asKey is what a key adds, by its number of why; behind the stroke what it adds besides, if it is given a new time.
var asKey = map[int]string{
	0: "cmd_get get_hits | cmd_touch touch_hits",
	1: "cmd_get get_misses | cmd_touch touch_misses",
	2: "cmd_get get_misses get_expired | cmd_touch touch_misses",
	3: "cmd_get get_misses get_flushed | cmd_touch touch_misses",
}

// count is P15.3 said anew, slowly.
func (s *sums) count(x call) {
	for name, n := range map[string]int{"evictions": x.m.Dropped, "reclaimed": x.m.Reclaimed, "crawled": x.m.Crawled} {
		if n > 0 {
			s.add(byWord[name], uint64(n))
		}
	}
	if x.a.Kind == api.Refused {
		s.plus("refused")
	}
	for i, part := range strings.Split(rows[x.c.Verb], ";") {
		kind, words, _ := strings.Cut(part, ":")
		if i == 0 {
			s.plus(part)
		} else if kinds[strings.TrimSpace(kind)] == x.a.Kind {
			s.plus(words)
		}
	}
	for i, w := range x.why {
		get, touch, _ := strings.Cut(asKey[w], "|")
		switch x.c.Verb {
		case api.Get, api.Gets:
			s.plus(get)
		case api.Gat, api.Gats:
			s.plus(get + touch)
		case api.MetaGet:
			if i == 0 {
				s.plus(get)
			}
		case api.MetaDelete, api.MetaArith:
			if i == 0 {
				s.plus(byWhy(x, w))
			}
		}
	}
	if x.c.Verb == api.MetaSet {
		s.plus(byCode(x))
	}
}

// codeOf is what stands ahead of the first blank.
func codeOf(a api.Answer) string {
	if a.Kind != api.Meta {
		return "none"
	}
	code := ""
	for _, r := range []byte(a.Text) {
		if r == ' ' {
			break
		}
		code += string(rune(r))
	}
	return code
}

// byWhy is what a MetaDelete or a MetaArith adds by its first number of why.
func byWhy(x call, why int) string {
	group := "delete"
	if x.c.Verb == api.MetaArith {
		group = "incr"
		for i := len(x.c.Meta) - 1; i >= 0; i-- {
			if f := x.c.Meta[i]; f.Letter == 'M' && f.Arg != "" && (f.Arg[0] == 'D' || f.Arg[0] == 'd') {
				group = "decr"
			} else if f.Letter == 'M' {
				group = "incr"
			}
		}
	}
	switch {
	case why >= 1 && why <= 3:
		return group + "_misses"
	case why != 0 || codeOf(x.a) == "EX":
		return ""
	case x.c.Verb == api.MetaArith && x.a.Kind == api.Refused:
		return ""
	}
	return group + "_hits"
}

// byCode is what a MetaSet adds by its code.
func byCode(x call) string {
	text := map[string]string{"HD": "total_items"}[codeOf(x.a)]
	for _, f := range x.c.Meta {
		if f.Letter == 'C' {
			return text + map[string]string{"HD": " cas_hits", "EX": " cas_badval", "NF": " cas_misses"}[codeOf(x.a)]
		}
	}
	return text
}

func sumsOfCalls(calls ...call) (s sums) {
	for _, x := range calls {
		s.count(x)
	}
	return s
}
