package count

import (
	"strings"

	"granary/api"
)

// tally is a number for each name: the first one's stands at place 0. It has no lock of its own: a Board holds one for it.
type tally [last]uint64

// add stops at the greatest number: a counter that wrapped round would tell less than there was.
func (t *tally) add(name int, n uint64) {
	t[name-1] += min(n, api.MaxNumber-t[name-1])
}

// when counts one of each name, if something holds.
func (t *tally) when(holds bool, names ...int) {
	if !holds {
		return
	}
	for _, name := range names {
		t.add(name, 1)
	}
}

// one counts one of each name.
func (t *tally) one(names ...int) { t.when(true, names...) }

// some adds what was done, if anything was.
func (t *tally) some(name, n int) {
	if n > 0 {
		t.add(name, uint64(n))
	}
}

// work counts what the store did beside a command.
func (t *tally) work(m api.Meter) {
	t.some(evictions, m.Dropped)
	t.some(reclaimed, m.Reclaimed)
	t.some(crawled, m.Crawled)
}

// command counts what hangs on the verb.
func (t *tally) command(c api.Command, a api.Answer, why []int) {
	switch c.Verb {
	case api.Get, api.Gets:
		t.keys(why)
	case api.Gat, api.Gats:
		t.keys(why)
		t.touches(why)
	case api.MetaGet, api.MetaSet, api.MetaDelete, api.MetaArith, api.MetaNoop:
		t.one(cmdMeta)
		t.meta(c, a, first(why))
	default:
		t.answered(c.Verb, a.Kind)
	}
}

// answered counts a command whose outcome its answer tells whole.
func (t *tally) answered(verb, kind int) {
	switch verb {
	case api.Set, api.Add, api.Replace, api.Append, api.Prepend:
		t.one(cmdSet)
		t.when(kind == api.Stored, totalItems)
	case api.Cas:
		t.one(cmdSet)
		t.when(kind == api.Stored, totalItems, casHits)
		t.when(kind == api.Exists, casBadval)
		t.when(kind == api.NotFound, casMisses)
	case api.Delete:
		t.when(kind == api.Deleted, deleteHits)
		t.when(kind == api.NotFound, deleteMisses)
	case api.Incr:
		t.when(kind == api.Number, incrHits)
		t.when(kind == api.NotFound, incrMisses)
	case api.Decr:
		t.when(kind == api.Number, decrHits)
		t.when(kind == api.NotFound, decrMisses)
	case api.Touch:
		t.one(cmdTouch)
		t.when(kind == api.Touched, touchHits)
		t.when(kind == api.NotFound, touchMisses)
	case api.FlushAll:
		t.one(cmdFlush)
	}
}

// keys counts the keys of a get.
func (t *tally) keys(why []int) {
	for _, w := range why {
		t.key(w)
	}
}

// key counts a key that is asked for, by why it missed.
func (t *tally) key(why int) {
	t.when(why == api.WhyHit, cmdGet, getHits)
	t.when(isMiss(why), cmdGet, getMisses)
	t.when(why == api.WhyExpired, getExpired)
	t.when(why == api.WhyFlushed, getFlushed)
}

// touches counts the keys of a get that gives them a new time.
func (t *tally) touches(why []int) {
	for _, w := range why {
		t.when(w == api.WhyHit, cmdTouch, touchHits)
		t.when(isMiss(w), cmdTouch, touchMisses)
	}
}

// meta counts a meta command beside its being one. What a quiet one came to is not told by its answer; why tells of its key all the same.
func (t *tally) meta(c api.Command, a api.Answer, why int) {
	code := codeOf(a)
	switch c.Verb {
	case api.MetaGet:
		t.key(why)
	case api.MetaSet:
		t.one(cmdSet)
		t.when(code == done, totalItems)
		if _, compared := find(c.Meta, 'C'); compared {
			t.when(code == done, casHits)
			t.when(code == other, casBadval)
			t.when(code == unfound, casMisses)
		}
	case api.MetaDelete:
		t.when(why == api.WhyHit && code != other, deleteHits)
		t.when(isMiss(why), deleteMisses)
	case api.MetaArith:
		hits, misses := incrHits, incrMisses
		if takesAway(c.Meta) {
			hits, misses = decrHits, decrMisses
		}
		t.when(why == api.WhyHit && code != other && a.Kind != api.Refused, hits)
		t.when(isMiss(why), misses)
	}
}

// The codes by which a meta command's outcome is told.
const (
	done    = "HD"
	other   = "EX" // the item has another token
	unfound = "NF"
)

// codeOf is the code of a meta command's line; empty, if the answer is none.
func codeOf(a api.Answer) string {
	if a.Kind != api.Meta {
		return ""
	}
	code, _, _ := strings.Cut(a.Text, " ")
	return code
}

// noWhy stands for a why that was not told.
const noWhy = -1

func first(why []int) int {
	if len(why) == 0 {
		return noWhy
	}
	return why[0]
}

// isMiss: does why tell of a key that was not live?
func isMiss(why int) bool {
	return why == api.WhyNone || why == api.WhyExpired || why == api.WhyFlushed
}

// find tells the first flag of a letter.
func find(flags []api.Flag, letter byte) (api.Flag, bool) {
	for _, f := range flags {
		if f.Letter == letter {
			return f, true
		}
	}
	return api.Flag{}, false
}

// takesAway: is a number counted down?
func takesAway(flags []api.Flag) bool {
	mode, _ := find(flags, 'M')
	return strings.HasPrefix(mode.Arg, "D") || strings.HasPrefix(mode.Arg, "d")
}
