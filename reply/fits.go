package reply

import (
	"slices"
	"strconv"
	"strings"

	"granary/api"
)

// usesItsOwn: are the fields zero that the answer's kind does not use?
func usesItsOwn(r api.Answer) bool {
	switch r.Kind {
	case api.Values:
		r.Entries = nil
	case api.Number:
		r.Number = 0
	case api.Told, api.Refused:
		r.Text = ""
	case api.Stat:
		r.Stats = nil
	case api.Meta:
		r.Text, r.Entries = "", nil
	}
	return len(r.Entries) == 0 && r.Number == 0 && r.Text == "" && len(r.Stats) == 0
}

// isRight: do the fields say what they may, of an answer whose kind is one of the command's?
func isRight(c api.Command, r api.Answer) bool {
	switch r.Kind {
	case api.Values:
		return areEntries(c.Keys, r.Entries)
	case api.Told:
		return isWords(r.Text)
	case api.Refused:
		return isRefusal(r.Text)
	case api.Stat:
		return !slices.ContainsFunc(r.Stats, func(s api.StatLine) bool { return !isName(s.Name) })
	case api.Meta:
		return isMeta(c.Verb, r)
	}
	return true
}

// areEntries: may they be told of these keys?
func areEntries(keys []string, entries []api.Entry) bool {
	for _, e := range entries {
		// The first place leaves the most keys for the entries behind it.
		at := slices.Index(keys, e.Key)
		if at < 0 || !isKey(e.Key) || e.Flags > api.MaxFlags || len(e.Value) > api.MaxPage {
			return false
		}
		keys = keys[at+1:]
	}
	return true
}

func isRefusal(text string) bool {
	if text == plainError {
		return true
	}
	code, words, ok := strings.Cut(text, " ")
	return ok && (code == clientError || code == serverError) && isWords(words)
}

// isMeta: is an answer's text a line of the verb, with the block that belongs to it?
func isMeta(verb int, r api.Answer) bool {
	if len(r.Text) > api.MaxLine {
		return false
	}
	words := strings.Split(r.Text, " ")
	code, flags := words[0], words[1:]
	if !slices.Contains(codes(verb), code) || standsAlone(code) && len(flags) > 0 {
		return false
	}
	if code == codeValue {
		if len(flags) == 0 || !isBlock(flags[0], r.Entries) {
			return false
		}
		flags = flags[1:]
	} else if len(r.Entries) > 0 {
		return false
	}
	return !slices.ContainsFunc(flags, func(flag string) bool { return !isFlag(flag) })
}

// isBlock: is there one entry alone, whose value has that length?
func isBlock(length string, entries []api.Entry) bool {
	if len(entries) != 1 {
		return false
	}
	n := len(entries[0].Value)
	return n <= api.MaxPage && length == strconv.Itoa(n)
}

// isWords: may it stand behind the first word of a line?
func isWords(text string) bool {
	return isOf(text, maxWords, isShown) && text[0] != ' ' && text[len(text)-1] != ' '
}

func isKey(text string) bool { return isOf(text, api.MaxKey, isPlain) }

func isName(text string) bool { return isOf(text, api.MaxKey, isInName) }

func isFlag(text string) bool { return isOf(text, maxFlag, isPlain) }

// maxFlag is how many bytes a flag has at most: its letter, and a key.
const maxFlag = api.MaxKey + 1

// isOf: has a text a byte at least, so many at most, and none that may not stand in it?
func isOf(text string, most int, may func(byte) bool) bool {
	if text == "" || len(text) > most {
		return false
	}
	for i := range len(text) {
		if !may(text[i]) {
			return false
		}
	}
	return true
}

// isShown: may a byte stand in words?
func isShown(b byte) bool { return b >= 32 && b <= 126 }

// isInName: may a byte stand in the name of a counter?
func isInName(b byte) bool { return b >= 33 && b <= 126 }

// isPlain: may a byte stand in a key or a flag?
func isPlain(b byte) bool { return b > 32 && b != 127 }
