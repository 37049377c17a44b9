package words

import (
	"strconv"
	"strings"

	"granary/api"
)

// What is told of a line or a block that is wrong; of no verb just an error is.
const (
	noVerb   = ""
	tooLong  = "line too long"
	badLine  = "bad command line format"
	badTime  = "invalid exptime argument"
	badDelta = "invalid numeric delta argument"
	badBlock = "bad data chunk"
)

// reset is what may be asked for of stats.
const reset = "reset"

// givenUp is what is told of a line that is wrong.
type givenUp string

// giveUp ends the reading of a line.
func giveUp(text string) { panic(givenUp(text)) }

// wrong is what a reading that gave up tells. A panic of any other kind is a fault of the program, and goes on.
func wrong(cause any, pass int) api.Wrong {
	text, ok := cause.(givenUp)
	switch {
	case !ok:
		panic(cause)
	case text == noVerb:
		return api.Wrong{Kind: api.WError, Pass: pass}
	}
	return api.Wrong{Kind: api.WClient, Text: string(text), Pass: pass}
}

// line reads one line without its end.
func (g grammar) line(line []byte) (c api.Command, block int, w api.Wrong) {
	pass := -1
	defer func() {
		if cause := recover(); cause != nil {
			c, block, w = api.Command{}, -1, wrong(cause, pass)
		}
	}()
	r, words := g.begin(line)
	pass = r.pass(words)
	c = r.read(words)
	return c, pass, api.Wrong{}
}

// begin is the row of a line's verb, and the words behind that.
func (g grammar) begin(line []byte) (row, []string) {
	if len(line) > api.MaxLine {
		giveUp(tooLong)
	}
	words := cut(string(line))
	if len(words) == 0 {
		giveUp(noVerb)
	}
	r, ok := g[words[0]]
	if !ok {
		giveUp(noVerb)
	}
	return r, words[1:]
}

// cut cuts a line into its words: blanks alone part them.
func cut(line string) []string {
	var words []string
	for word := range strings.SplitSeq(line, " ") {
		if word != "" {
			words = append(words, word)
		}
	}
	return words
}

// pass is the length of the block that the words tell, be they right or wrong; -1, if they tell none.
func (r row) pass(words []string) int {
	place := strings.IndexByte(r.wants, 'N')
	if place < 0 || place >= len(words) {
		return -1
	}
	n, ok := number(words[place], api.MaxBlock)
	if !ok {
		return -1
	}
	return int(n)
}

// read is the command that the words behind the verb tell.
func (r row) read(words []string) api.Command {
	c := api.Command{Verb: r.verb}
	if last := len(words) - 1; r.quiet && last >= len(r.wants) && words[last] == noreply {
		c.Noreply = true
		words = words[:last]
	}
	if !r.takes(len(words)) {
		giveUp(badLine)
	}
	for place, word := range words {
		take(&c, r.letter(place), word)
	}
	// Flags stand last, so what is wrong with them is told behind all else.
	if text := Flags(r.verb, c.Meta); text != "" {
		giveUp(text)
	}
	return c
}

// take takes one word into a command.
func take(c *api.Command, letter byte, word string) {
	switch letter {
	case 'K':
		ask(len(word) <= api.MaxKey && isPlain(word), badLine)
		c.Keys = append(c.Keys, word)
	case 'F':
		c.Flags = wanted(word, api.MaxFlags, badLine)
	case 'T', 'L':
		t, ok := time(word)
		ask(ok && (letter == 'T' || t >= 0), badTime)
		c.Exptime = t
	case 'N', 'V':
		wanted(word, api.MaxBlock, badLine)
	case 'C':
		c.Token = wanted(word, api.MaxNumber, badLine)
	case 'D':
		c.Delta = wanted(word, api.MaxNumber, badDelta)
	case '0':
		ask(word == "0", badLine)
	case 'W':
		ask(word == reset, badLine)
		c.What = reset
	case 'M':
		c.Meta = append(c.Meta, api.Flag{Letter: word[0], Arg: word[1:], Has: len(word) > 1})
	}
}

// ask gives up, unless a word is right.
func ask(right bool, text string) {
	if !right {
		giveUp(text)
	}
}

// wanted is the number that a word must be.
func wanted(word string, most uint64, text string) uint64 {
	n, ok := number(word, most)
	ask(ok, text)
	return n
}

// isPlain: has a word no byte that a key may not have?
func isPlain(word string) bool {
	for i := range len(word) {
		if word[i] <= 32 || word[i] == 127 {
			return false
		}
	}
	return true
}

// number is a word's number, if it is one, and not above most.
func number(word string, most uint64) (uint64, bool) {
	n, err := strconv.ParseUint(word, 10, 64)
	if err != nil || n > most {
		return 0, false
	}
	return n, true
}

// time is a word's time, if it is one.
func time(word string) (int, bool) {
	// ParseInt takes a plus ahead too, which no time has.
	t, err := strconv.ParseInt(word, 10, 64)
	if err != nil || word[0] == '+' {
		return 0, false
	}
	return int(t), true
}
