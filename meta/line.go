package meta

import (
	"strconv"
	"strings"

	"granary/api"
)

// The codes that lines begin with.
const (
	done     = "HD"
	value    = "VA"
	miss     = "EN"
	unstored = "NS"
	exists   = "EX"
	unfound  = "NF"
	noop     = "MN"
)

// The words of an item's marks, which stand behind what is told.
const (
	isStale = "X"
	youWon  = "W"
	hasWon  = "Z"
)

// hit is the code of a line that tells of an item.
func (j job) hit() string {
	if j.has('v') {
		return value
	}
	return done
}

// outcome is the line of what the store answered; a refusal is told as it is.
func (j job) outcome(a api.Answer) api.Answer {
	switch a.Kind {
	case api.Stored, api.Deleted:
		return j.line(done, api.Entry{Token: j.store.Issued()})
	case api.NotStored:
		return j.line(unstored, api.Entry{})
	case api.Exists:
		return j.line(exists, api.Entry{})
	case api.NotFound:
		return j.line(unfound, api.Entry{})
	}
	return a
}

// line is the answer of a code, told of an item.
func (j job) line(code string, e api.Entry, marks ...string) api.Answer {
	if j.has('q') && isQuiet(j.verb, code) {
		return api.Answer{Kind: api.Nothing}
	}
	a := api.Answer{Kind: api.Meta}
	words := []string{code}
	if code == value {
		words = append(words, strconv.Itoa(len(e.Value)))
		a.Entries = []api.Entry{{Value: e.Value}}
	}
	letters := j.letters(code)
	for _, f := range j.flags {
		if strings.IndexByte(letters, f.letter()) >= 0 {
			words = append(words, j.word(f, e))
		}
	}
	a.Text = strings.Join(append(words, marks...), " ")
	return a
}

// isQuiet: is a line not told, if the command is quiet?
func isQuiet(verb int, code string) bool {
	switch code {
	case miss, unstored:
		return true
	case done:
		return verb != api.MetaGet
	case unfound:
		return verb != api.MetaSet
	}
	return false
}

// letters are those that a line tells.
func (j job) letters(code string) string {
	switch code {
	case miss:
		return ""
	case done, value:
		return j.lettersOfHit()
	}
	return "Ok"
}

// lettersOfHit are those of a line that tells of an item.
func (j job) lettersOfHit() string {
	switch {
	case j.verb == api.MetaGet:
		return "Okfctshl"
	case j.verb == api.MetaArith:
		return "Okct"
	case j.verb == api.MetaDelete && !j.has('I'): // it has issued no token
		return "Ok"
	}
	return "Okc"
}

// word is what a line says of a flag.
func (j job) word(f flag, e api.Entry) string {
	behind := ""
	switch f := f.(type) {
	case opaque:
		behind = string(f)
	case bare:
		behind = j.fact(f, e)
	}
	return string([]byte{f.letter()}) + behind
}

// fact is what is told of an item behind a letter.
func (j job) fact(letter bare, e api.Entry) string {
	switch letter {
	case 'k':
		return j.key
	case 'f':
		return strconv.FormatUint(e.Flags, 10)
	case 'c':
		return strconv.FormatUint(e.Token, 10)
	case 't':
		return strconv.Itoa(j.left(e.Expiry))
	case 's':
		return strconv.Itoa(len(e.Value))
	case 'h':
		if e.Hit {
			return "1"
		}
		return "0"
	}
	return strconv.Itoa(j.store.Now() - e.Touched)
}

// left is how many ticks are left of an item; -1, if it never expires.
func (j job) left(expiry int) int {
	if expiry == 0 {
		return -1
	}
	return expiry - j.store.Now()
}
