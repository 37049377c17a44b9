package meta_test

import (
	"fmt"
	"math/big"
	"strings"

	"granary/api"
	"granary/store"
	"granary/tide"
)

// plain is a meta command done as chapter 14 tells it, step by step, by calls of a store.
type plain struct {
	*store.Store
	c   api.Command
	key string
}

// arg is what stands behind a letter, and whether the letter stands there.
func (p plain) arg(letter byte) (string, bool) {
	for _, f := range p.c.Meta {
		if f.Letter == letter {
			return f.Arg, true
		}
	}
	return "", false
}

func (p plain) has(letter byte) bool { _, ok := p.arg(letter); return ok }

// big is the number behind a letter, or another one.
func (p plain) big(letter byte, or int64) *big.Int {
	text, ok := p.arg(letter)
	n, right := new(big.Int).SetString(text, 10)
	if !ok || !right {
		return big.NewInt(or)
	}
	return n
}

func (p plain) number(letter byte, or int64) uint64 { return p.big(letter, or).Uint64() }

func (p plain) time(letter byte) int { return int(p.big(letter, 0).Int64()) }

// mode is M's letter made great.
func (p plain) mode(or string) string {
	if text, ok := p.arg('M'); ok {
		return strings.ToUpper(text)
	}
	return or
}

// call is a command of the key.
func (p plain) call(verb int, change func(*api.Command)) api.Answer {
	c := api.Command{Verb: verb, Keys: []string{p.key}}
	if change != nil {
		change(&c)
	}
	return p.Do(c)
}

// line is P14.2: a code, told of an item, with a row of letters.
func (p plain) line(code, row string, e api.Entry, marks string) string {
	text := code
	if code == "VA" {
		text += fmt.Sprintf(" %d", len(e.Value))
	}
	left, hit := e.Expiry-p.Now(), 0
	if e.Expiry == 0 {
		left = -1
	}
	if e.Hit {
		hit = 1
	}
	told := map[byte]any{'k': p.key, 'f': e.Flags, 'c': e.Token, 't': left, 's': len(e.Value), 'h': hit, 'l': p.Now() - e.Touched}
	for _, f := range p.c.Meta {
		switch {
		case !strings.Contains(row, string([]byte{f.Letter})):
		case f.Letter == 'O':
			text += " O" + f.Arg
		default:
			text += fmt.Sprintf(" %c%v", f.Letter, told[f.Letter])
		}
	}
	text += marks
	if code == "VA" {
		text += ": " + string(e.Value)
	}
	return text
}

// quiet is P14.3.
func (p plain) quiet(text string) string {
	if p.has('q') {
		switch verb := p.c.Verb; {
		case text == "EN", strings.HasPrefix(text, "NS"),
			strings.HasPrefix(text, "HD") && (verb == api.MetaSet || verb == api.MetaDelete || verb == api.MetaArith),
			strings.HasPrefix(text, "NF") && (verb == api.MetaDelete || verb == api.MetaArith):
			return "-"
		}
	}
	return text
}

// hit is HD, or VA, if v is asked.
func (p plain) hit() string {
	if p.has('v') {
		return "VA"
	}
	return "HD"
}

const getRow = "Okfctshl"

func (p plain) get() string {
	verb := api.Get
	if p.has('T') {
		verb = api.Gat
	}
	a := p.call(verb, func(c *api.Command) { c.Exptime = p.time('T') })
	if len(a.Entries) == 0 {
		return p.vivify()
	}
	e := a.Entries[0]
	marks := ""
	short := big.NewInt(int64(e.Expiry-p.Now())).Cmp(p.big('R', 0)) < 0
	if e.Stale {
		marks += " X"
		if e.Won {
			marks += " Z"
		} else {
			p.Mark(p.key, api.MarkStale+api.MarkWon)
			marks += " W"
		}
	} else if e.Won {
		marks += " Z"
	} else if p.has('R') && e.Expiry != 0 && short {
		p.Mark(p.key, api.MarkWon)
		marks += " W"
	}
	return p.line(p.hit(), getRow, e, marks)
}

func (p plain) vivify() string {
	if !p.has('N') {
		return "EN"
	}
	a := p.call(api.Set, func(c *api.Command) { c.Exptime = p.time('N') })
	if a.Kind == api.Refused {
		return "! " + a.Text
	}
	p.Mark(p.key, api.MarkWon)
	return p.line(p.hit(), getRow, api.Entry{Token: p.Issued(), Expiry: tide.Expiry(p.Now(), p.time('N')), Touched: p.Now()}, " W")
}

// told is the line of what the store answered.
func (p plain) told(a api.Answer, row string) string {
	code := map[int]string{api.Stored: "HD", api.Deleted: "HD", api.NotStored: "NS", api.Exists: "EX", api.NotFound: "NF"}[a.Kind]
	if code == "" {
		return "! " + a.Text
	}
	if code != "HD" {
		row = "Ok"
	}
	return p.line(code, row, api.Entry{Token: p.Issued()}, "")
}

func (p plain) look() string {
	return p.told(p.call(api.Cas, func(c *api.Command) { c.Token = p.number('C', 0) }), "")
}

// set goes by the table, row by row.
func (p plain) set() string {
	e, is := p.Find(p.key)
	mode := p.mode("S")[0]
	token, c := 0, -1
	if is {
		token = int(e.Token)
	}
	if p.has('C') {
		// Tokens of the tests are small: what is above all of them is just that.
		c = int(min(p.number('C', 0), 1<<62))
	}
	r := rowOf(mode, token, c, p.has('I'))
	verb := r.verb
	if verb == "" {
		verb = own(mode)
	}
	if verb == "look" {
		return p.look()
	}
	does := map[string]int{"set": api.Set, "add": api.Add, "replace": api.Replace, "append": api.Append, "prepend": api.Prepend, "cas": api.Cas}[verb]
	a := p.call(does, func(x *api.Command) {
		x.Flags, x.Exptime, x.Data, x.Large, x.Token = p.number('F', 0), p.time('T'), p.c.Data, p.c.Large, p.number('C', 0)
	})
	if r.stale && a.Kind == api.Stored {
		p.Mark(p.key, api.MarkStale)
	}
	return p.told(a, "Okc")
}

func (p plain) remove() string {
	e, is := p.Find(p.key)
	if is && p.has('C') && e.Token != p.number('C', 0) {
		return p.look()
	}
	if is && p.has('I') {
		return p.told(p.Stamp(p.key, api.MarkStale, p.time('T'), p.has('T')), "Okc")
	}
	return p.told(p.call(api.Delete, nil), "Ok")
}

func (p plain) count() string {
	e, is := p.Find(p.key)
	if is && p.has('C') && e.Token != p.number('C', 0) {
		return p.look()
	}
	verb := map[string]int{"I": api.Incr, "D": api.Decr}[p.mode("I")]
	a := p.call(verb, func(c *api.Command) { c.Delta = p.number('D', 1) })
	if a.Kind == api.NotFound && p.has('N') {
		digits := p.big('J', 0).String()
		if a = p.call(api.Set, func(c *api.Command) { c.Exptime, c.Data = p.time('N'), []byte(digits) }); a.Kind == api.Stored {
			return p.line(p.hit(), "Okct", api.Entry{Value: []byte(digits), Token: p.Issued(), Expiry: tide.Expiry(p.Now(), p.time('N'))}, "")
		}
	}
	if a.Kind != api.Number {
		return p.told(a, "")
	}
	if p.has('T') {
		p.call(api.Touch, func(c *api.Command) { c.Exptime = p.time('T') })
		e.Expiry = tide.Expiry(p.Now(), p.time('T'))
	}
	return p.line(p.hit(), "Okct", api.Entry{Value: fmt.Append(nil, a.Number), Token: p.Issued(), Expiry: e.Expiry}, "")
}

// plainly does a command that is not bad, and shows its answer.
func plainly(s *store.Store, c api.Command) string {
	p := plain{s, c, c.Keys[0]}
	switch c.Verb {
	case api.MetaGet:
		return p.quiet(p.get())
	case api.MetaSet:
		return p.quiet(p.set())
	case api.MetaDelete:
		return p.quiet(p.remove())
	}
	return p.quiet(p.count())
}
