package words

import (
	"slices"
	"strconv"
	"strings"

	"granary/api"
)

// level is the one that is written of verbosity: which it was is not told.
const level = "1"

// spell is the line of a command, whatever its fields hold; false, if its verb is none.
func (g grammar) spell(c api.Command) (string, bool) {
	spelled, r, ok := g.of(c.Verb)
	if !ok {
		return "", false
	}
	words := []string{spelled}
	for i := range len(r.wants) {
		words = append(words, must(c, r.wants[i])...)
	}
	for i := range len(r.may) {
		words = append(words, might(c, r.may[i])...)
	}
	if c.Noreply {
		words = append(words, noreply)
	}
	return strings.Join(words, " "), true
}

// must are the words of a letter that a row wants. All keys stand in the place of the first.
func must(c api.Command, letter byte) []string {
	switch letter {
	case 'K':
		return c.Keys
	case 'F':
		return []string{strconv.FormatUint(c.Flags, 10)}
	case 'T':
		return []string{strconv.Itoa(c.Exptime)}
	case 'N':
		return []string{strconv.Itoa(len(c.Data))}
	case 'C':
		return []string{strconv.FormatUint(c.Token, 10)}
	case 'D':
		return []string{strconv.FormatUint(c.Delta, 10)}
	}
	return []string{level}
}

// might are the words of a letter that may be left out.
func might(c api.Command, letter byte) []string {
	var words []string
	switch {
	case letter == 'L' && c.Exptime != 0:
		words = append(words, strconv.Itoa(c.Exptime))
	case letter == 'W' && c.What != "":
		words = append(words, c.What)
	case letter == 'M':
		for _, f := range c.Meta {
			words = append(words, string([]byte{f.Letter})+f.Arg)
		}
	}
	return words
}

// same: do two commands say the same, but for their blocks?
func same(a, b api.Command) bool {
	return a.Verb == b.Verb && slices.Equal(a.Keys, b.Keys) && a.Flags == b.Flags && a.Exptime == b.Exptime &&
		a.Token == b.Token && a.Delta == b.Delta && a.Noreply == b.Noreply && a.Large == b.Large &&
		slices.Equal(a.Meta, b.Meta) && a.What == b.What
}
