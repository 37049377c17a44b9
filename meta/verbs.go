package meta

import (
	"strconv"

	"granary/api"
	"granary/tide"
)

// get tells an item, and makes one, if there is none and that is asked.
func (j job) get() api.Answer {
	c := api.Command{Verb: api.Get}
	if t, timed := j.times['T']; timed {
		c.Verb, c.Exptime = api.Gat, t
	}
	a := j.do(c)
	if len(a.Entries) == 0 {
		return j.vivify()
	}
	e := a.Entries[0]
	return j.line(j.hit(), e, j.marks(e)...)
}

// marks are the words of an item's marks. The first who sees that it is to be fetched anew has won.
func (j job) marks(e api.Entry) []string {
	switch {
	case e.Stale && e.Won:
		return []string{isStale, hasWon}
	case e.Stale:
		j.store.Mark(j.key, api.MarkStale|api.MarkWon)
		return []string{isStale, youWon}
	case e.Won:
		return []string{hasWon}
	case j.isShort(e.Expiry):
		j.store.Mark(j.key, api.MarkWon)
		return []string{youWon}
	}
	return nil
}

// isShort: are fewer ticks left of an item than the command wants?
func (j job) isShort(expiry int) bool {
	least, asked := j.numbers['R']
	left := j.left(expiry)
	return asked && expiry != 0 && (left < 0 || uint64(left) < least)
}

// vivify makes an empty item in the place of one that is missing. Who makes it has won.
func (j job) vivify() api.Answer {
	t, asked := j.times['N']
	if !asked {
		return j.line(miss, api.Entry{})
	}
	if a := j.do(api.Command{Verb: api.Set, Exptime: t}); a.Kind == api.Refused {
		return a
	}
	j.store.Mark(j.key, api.MarkWon)
	return j.line(j.hit(), j.made(t, nil), youWon)
}

// made is an item that this command has stored with a time.
func (j job) made(t int, value []byte) api.Entry {
	now := j.store.Now()
	return api.Entry{Value: value, Expiry: tide.Expiry(now, t), Token: j.store.Issued(), Touched: now}
}

// set stores a value.
func (j job) set(data []byte, large bool) api.Answer {
	e, is := j.store.Find(j.key)
	verb, stale := j.storing(e, is)
	if verb == 0 {
		return j.look()
	}
	a := j.do(api.Command{
		Verb:    verb,
		Flags:   j.numbers['F'],
		Exptime: j.times['T'],
		Token:   j.numbers['C'],
		Data:    data,
		Large:   large,
	})
	if stale && a.Kind == api.Stored {
		j.store.Mark(j.key, api.MarkStale)
	}
	return j.outcome(a)
}

// storing is the verb by which a value is stored, and whether the item is stale then; 0, if nothing can be stored by that token.
func (j job) storing(e api.Entry, is bool) (verb int, stale bool) {
	verb = verbOf(j.mode)
	joins := verb == api.Append || verb == api.Prepend
	token, compared := j.numbers['C']
	switch {
	case !compared,
		verb == api.Add && is,
		verb == api.Replace && !is,
		joins && (!is || e.Token == token):
		return verb, false
	case is && j.has('I') && e.Token > token: // what the command knows is older than the item, so what it stores is old too
		if joins {
			return verb, true
		}
		return api.Set, true
	case joins:
		return 0, false
	}
	return api.Cas, false
}

// verbOf is the verb of a mode of storing.
func verbOf(m mode) int {
	switch m {
	case "E":
		return api.Add
	case "R":
		return api.Replace
	case "A":
		return api.Append
	case "P":
		return api.Prepend
	}
	return api.Set
}

// isOther: does the command ask for another token than the item's?
func (j job) isOther(token uint64) bool {
	n, compared := j.numbers['C']
	return compared && n != token
}

// look answers a command whose token is another one than the item's: a store tells so of a cas, and changes nothing.
func (j job) look() api.Answer {
	return j.outcome(j.do(api.Command{Verb: api.Cas, Token: j.numbers['C']}))
}

// remove takes an item away, or makes it stale.
func (j job) remove() api.Answer {
	e, is := j.store.Find(j.key)
	switch {
	case is && j.isOther(e.Token):
		return j.look()
	case is && j.has('I'):
		t, timed := j.times['T']
		return j.outcome(j.store.Stamp(j.key, api.MarkStale, t, timed))
	}
	return j.outcome(j.do(api.Command{Verb: api.Delete}))
}

// count adds to a number, or takes from it.
func (j job) count() api.Answer {
	e, is := j.store.Find(j.key)
	if is && j.isOther(e.Token) {
		return j.look()
	}
	c := api.Command{Verb: api.Incr, Delta: 1}
	if j.mode == "D" {
		c.Verb = api.Decr
	}
	if n, asked := j.numbers['D']; asked {
		c.Delta = n
	}
	a := j.do(c)
	switch a.Kind {
	case api.Number:
		return j.counted(a.Number, e.Expiry)
	case api.NotFound:
		return j.begin()
	}
	return a
}

// counted tells a number that has been counted, of an item with that expiry.
func (j job) counted(n uint64, expiry int) api.Answer {
	if t, timed := j.times['T']; timed {
		j.do(api.Command{Verb: api.Touch, Exptime: t})
		expiry = tide.Expiry(j.store.Now(), t)
	}
	return j.line(j.hit(), api.Entry{Value: digits(n), Expiry: expiry, Token: j.store.Issued()})
}

// begin stores the first number in the place of one that is missing, if that is asked.
func (j job) begin() api.Answer {
	t, asked := j.times['N']
	if !asked {
		return j.line(unfound, api.Entry{})
	}
	first := digits(j.numbers['J'])
	if a := j.do(api.Command{Verb: api.Set, Exptime: t, Data: first}); a.Kind == api.Refused {
		return a
	}
	return j.line(j.hit(), j.made(t, first))
}

func digits(n uint64) []byte { return strconv.AppendUint(nil, n, 10) }
