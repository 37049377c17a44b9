package store

import (
	"slices"
	"strconv"

	"granary/api"
	"granary/item"
	"granary/tide"
)

// What is told of a command that is refused, and of the version.
const (
	badCommand = "bad command"
	tooLarge   = "object too large for cache"
	noRoom     = "out of memory storing object"
	noNumber   = "cannot increment or decrement non-numeric value"
	version    = "granary 1"
)

// maxDigits is how many a number's value may have, zeros ahead too.
const maxDigits = 20

// givenUp is the answer to a command that can't go on.
type givenUp api.Answer

// giveUp ends a command with an answer of this kind.
func giveUp(kind int) { panic(givenUp{Kind: kind}) }

// refuse ends a command with a refusal.
func refuse(text string) { panic(givenUp{Kind: api.Refused, Text: text}) }

// settled is the answer of a command that may have given up. A panic of any other kind is a fault of the program, and goes on.
func settled(cause any, a api.Answer) api.Answer {
	if cause == nil {
		return a
	}
	up, ok := cause.(givenUp)
	if !ok {
		panic(cause)
	}
	return api.Answer(up)
}

// keysOf are the keys that a command uses. One that is bad is refused.
func keysOf(c api.Command) []string {
	fine := false
	switch c.Verb {
	case api.Get, api.Gets, api.Gat, api.Gats:
		fine = len(c.Keys) > 0
	case api.Set, api.Add, api.Replace, api.Append, api.Prepend, api.Cas:
		fine = len(c.Keys) == 1 && c.Flags <= api.MaxFlags
	case api.Delete, api.Incr, api.Decr, api.Touch:
		fine = len(c.Keys) == 1
	case api.FlushAll, api.Version, api.Verbosity, api.Quit:
		return nil
	}
	for _, key := range c.Keys {
		fine = fine && isLegal(key)
	}
	if !fine {
		refuse(badCommand)
	}
	return c.Keys
}

// answer does what a command that is not bad says.
func (o *core) answer(c api.Command) api.Answer {
	switch c.Verb {
	case api.Get, api.Gets:
		return o.get(c, false)
	case api.Gat, api.Gats:
		return o.get(c, true)
	case api.Set, api.Add, api.Replace, api.Cas:
		return o.set(c)
	case api.Append, api.Prepend:
		return o.join(c)
	case api.Delete:
		return o.remove(c)
	case api.Incr, api.Decr:
		return o.count(c)
	case api.Touch:
		return o.touch(c)
	case api.FlushAll:
		return o.flush(c)
	case api.Version:
		return api.Answer{Kind: api.Told, Text: version}
	case api.Verbosity:
		return api.Answer{Kind: api.Fine}
	}
	return api.Answer{Kind: api.Nothing}
}

// get tells the live ones of some items, and gives them another expiry, if it is timed.
func (o *core) get(c api.Command, timed bool) api.Answer {
	a := api.Answer{Kind: api.Values}
	for _, key := range c.Keys {
		h := o.meet(key)
		if h == 0 {
			continue
		}
		told := o.entry(h)
		o.hit(h)
		if timed {
			told.Expiry = o.expire(h, c.Exptime)
		}
		a.Entries = append(a.Entries, told)
	}
	return a
}

// set stores a value of the command's own.
func (o *core) set(c api.Command) api.Answer {
	key := c.Keys[0]
	old := o.meet(key)
	size, fits := o.fit(len(key), len(c.Data))
	if c.Large || !fits {
		o.lose(old, tooLarge)
	}
	ask(c.Verb, old != 0)
	if c.Verb == api.Cas {
		o.askToken(old, c.Token)
	}
	h := o.room(size, old)
	if h == 0 {
		o.lose(old, noRoom)
	}
	o.lay(h, old, api.Item{Key: []byte(key), Value: c.Data, Flags: c.Flags, Expiry: tide.Expiry(o.Now(), c.Exptime)})
	return api.Answer{Kind: api.Stored}
}

// lose refuses a value in the place of which the old one must not be told any more.
func (o *core) lose(old api.Handle, text string) {
	if old != 0 {
		o.takeAway(old)
	}
	refuse(text)
}

// ask ends a command whose condition does not hold.
func ask(verb int, is bool) {
	switch {
	case verb == api.Add && is, verb == api.Replace && !is:
		giveUp(api.NotStored)
	case verb == api.Cas && !is:
		giveUp(api.NotFound)
	}
}

// askToken ends a command that was told another token than the item's.
func (o *core) askToken(h api.Handle, token uint64) {
	if is, _ := item.Token(o.chunks, h); is != token {
		giveUp(api.Exists)
	}
}

// join stores the old value with more behind it, or ahead of it.
func (o *core) join(c api.Command) api.Answer {
	key := c.Keys[0]
	old := o.meet(key)
	if _, fits := o.fit(len(key), len(c.Data)); c.Large || !fits {
		refuse(tooLarge)
	}
	if old == 0 {
		giveUp(api.NotStored)
	}
	it, _ := item.Read(o.chunks, old)
	if c.Verb == api.Append {
		it.Value = slices.Concat(it.Value, c.Data)
	} else {
		it.Value = slices.Concat(c.Data, it.Value)
	}
	o.anew(old, it)
	return api.Answer{Kind: api.Stored}
}

// anew stores an item in the place of the old one, which stays where that can't be.
func (o *core) anew(old api.Handle, it api.Item) {
	size, fits := o.fit(len(it.Key), len(it.Value))
	if !fits {
		refuse(tooLarge)
	}
	h := o.room(size, old)
	if h == 0 {
		refuse(noRoom)
	}
	o.lay(h, old, it)
}

// remove takes an item away.
func (o *core) remove(c api.Command) api.Answer {
	o.takeAway(o.need(c.Keys[0], api.NotFound))
	return api.Answer{Kind: api.Deleted}
}

// count adds to a number, or takes from it.
func (o *core) count(c api.Command) api.Answer {
	h := o.need(c.Keys[0], api.NotFound)
	it, _ := item.Read(o.chunks, h)
	n := number(it.Value)
	if c.Verb == api.Incr {
		n += c.Delta
	} else {
		n -= min(n, c.Delta)
	}
	it.Value = strconv.AppendUint(nil, n, 10)
	if !o.inPlace(h, it.Value) {
		o.anew(h, it)
	}
	return api.Answer{Kind: api.Number, Number: n}
}

// number is the number that a value's digits are.
func number(value []byte) uint64 {
	n, err := strconv.ParseUint(string(value), 10, 64)
	if err != nil || len(value) > maxDigits {
		refuse(noNumber)
	}
	return n
}

// inPlace is a mutation in the item's own chunk; false, if the value does not fit it.
func (o *core) inPlace(h api.Handle, value []byte) bool {
	was := o.size(h)
	if item.Value(o.chunks, h, value) != api.OK {
		return false
	}
	o.bytes += o.size(h) - was
	o.renew(h, 0)
	o.hit(h)
	return true
}

// renew gives an item the next token, and marks of those that a caller may lay.
func (o *core) renew(h api.Handle, marks int) {
	item.SetToken(o.chunks, h, o.issue())
	o.mark(h, given, marks)
}

// touch gives an item another expiry.
func (o *core) touch(c api.Command) api.Answer {
	h := o.need(c.Keys[0], api.NotFound)
	o.expire(h, c.Exptime)
	o.hit(h)
	return api.Answer{Kind: api.Touched}
}

// flush makes all items dead, now or later. The crawler begins anew, so that it comes by all of them.
func (o *core) flush(c api.Command) api.Answer {
	o.Flush(c.Exptime, o.issued)
	o.Again()
	return api.Answer{Kind: api.Fine}
}

// stamp is a mutation that leaves the value as it is.
func (o *core) stamp(key string, marks, exptime int, timed bool) api.Answer {
	h := o.need(key, api.NotFound)
	o.renew(h, marks)
	if timed {
		o.expire(h, exptime)
	}
	return api.Answer{Kind: api.Stored}
}
