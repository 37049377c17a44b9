package words_test

import (
	"bytes"
	"math/big"
	"regexp"
	"strconv"
	"strings"

	"granary/api"
)

// A plain model of the chapter, by whole lines and great numbers; the tests hold the package against it.

var (
	digits   = regexp.MustCompile(`^[0-9]+$`)
	timeForm = regexp.MustCompile(`^-?[0-9]+$`)
)

// upTo: is a word a number up to this one?
func upTo(word, most string) bool {
	n, _ := new(big.Int).SetString(most, 10)
	return digits.MatchString(word) && big64(word).Cmp(n) <= 0
}

func big64(word string) *big.Int {
	n, _ := new(big.Int).SetString(word, 10)
	return n
}

func isTime(word string) bool { return timeForm.MatchString(word) && big64(word).IsInt64() }

func isClean(word string) bool {
	return !strings.ContainsFunc(strings.Map(lowByte, word), func(r rune) bool { return r == '!' })
}

// lowByte makes what no key may have one rune, and all else another.
func lowByte(r rune) rune {
	if r <= 32 || r == 127 {
		return '!'
	}
	return '.'
}

func isKeyWord(word string) bool { return word != "" && len(word) <= 250 && isClean(word) }

// told is what the model says of a word of a kind; empty, if it is right.
func told(kind, word string) string {
	switch {
	case kind == "K" && !isKeyWord(word),
		kind == "F" && !upTo(word, "4294967295"),
		(kind == "N" || kind == "V") && !upTo(word, "2147483647"),
		kind == "C" && !upTo(word, "18446744073709551615"),
		kind == "0" && word != "0",
		kind == "W" && word != "reset":
		return badLine
	case (kind == "T" || kind == "L") && !isTime(word),
		kind == "L" && big64(word).Sign() < 0:
		return badTime
	case kind == "D" && !upTo(word, "18446744073709551615"):
		return badDelta
	}
	return ""
}

// modelFlag is what the model says of a flag behind others.
func modelFlag(verb int, ahead []api.Flag, f api.Flag) string {
	without, with := letters(verb)
	bareOne, fullOne := strings.ContainsRune(without, rune(f.Letter)), strings.ContainsRune(with, rune(f.Letter))
	if !bareOne && !fullOne {
		return noFlag
	}
	for _, g := range ahead {
		if g.Letter == f.Letter {
			return twice
		}
	}
	if f.Letter == 'O' && (len(f.Arg) < 1 || len(f.Arg) > 32) {
		return badOpaque
	}
	right := f.Arg == ""
	if fullOne {
		switch f.Letter {
		case 'O':
			right = isClean(f.Arg)
		case 'T', 'N':
			right = isTime(f.Arg)
		case 'F':
			right = upTo(f.Arg, "4294967295")
		case 'M':
			modes := map[int]string{api.MetaSet: "SEAPR", api.MetaArith: "ID"}[verb]
			right = len(f.Arg) == 1 && f.Arg[0] < 128 && strings.Contains(modes, strings.ToUpper(f.Arg))
		default:
			right = upTo(f.Arg, "18446744073709551615")
		}
	}
	if !right || f.Has != (len(f.Arg) > 0) {
		return badToken
	}
	return ""
}

func modelFlags(verb int, l []api.Flag) string {
	for i, f := range l {
		if s := modelFlag(verb, l[:i], f); s != "" {
			return s
		}
	}
	return ""
}

// kindAt is the kind of a word, by its place behind the verb; empty, if none stands there.
func (r verbRow) kindAt(i int) string {
	switch {
	case i < len(r.slots):
		return r.slots[i].kind
	case r.endless:
		return r.slots[len(r.slots)-1].kind
	}
	return ""
}

func rowOf(rows []verbRow, word string) (verbRow, bool) {
	for _, r := range rows {
		if r.spelled == word {
			return r, true
		}
	}
	return verbRow{}, false
}

// modelLine is what the model says of a line.
func modelLine(rows []verbRow, line string) (api.Command, int, api.Wrong) {
	if len(line) > 2048 {
		return api.Command{}, -1, client(tooLong, -1)
	}
	var w []string
	for _, x := range strings.Split(line, " ") {
		if x != "" {
			w = append(w, x)
		}
	}
	if len(w) == 0 {
		return api.Command{}, -1, noVerb
	}
	r, ok := rowOf(rows, w[0])
	if !ok {
		return api.Command{}, -1, noVerb
	}
	w = w[1:]
	pass := -1
	if at := r.lengthAt(); at > 0 && at <= len(w) && upTo(w[at-1], "2147483647") {
		pass = int(big64(w[at-1]).Int64())
	}
	c, text := modelWords(r, w)
	if text != "" {
		return api.Command{}, -1, client(text, pass)
	}
	return c, pass, api.Wrong{}
}

// modelWords is the command of the words behind a verb, or what is wrong with them.
func modelWords(r verbRow, w []string) (api.Command, string) {
	c := api.Command{Verb: r.told.Verb}
	if n := len(w); n > 0 && r.quiet && w[n-1] == "noreply" && n-1 >= r.least {
		c.Noreply, w = true, w[:n-1]
	}
	if len(w) < r.least || len(w) > len(r.slots) && !r.endless {
		return c, badLine
	}
	for i, word := range w {
		kind := r.kindAt(i)
		if s := told(kind, word); s != "" {
			return c, s
		}
		switch kind {
		case "K":
			c.Keys = append(c.Keys, word)
		case "F":
			c.Flags = big64(word).Uint64()
		case "T", "L":
			c.Exptime = int(big64(word).Int64())
		case "C":
			c.Token = big64(word).Uint64()
		case "D":
			c.Delta = big64(word).Uint64()
		case "W":
			c.What = word
		case "M":
			f := api.Flag{Letter: word[0], Arg: word[1:], Has: word[1:] != ""}
			if s := modelFlag(c.Verb, c.Meta, f); s != "" {
				return c, s
			}
			c.Meta = append(c.Meta, f)
		}
	}
	return c, ""
}

// modelAll is what the model says of a row of bytes.
func modelAll(rows []verbRow, raw []byte, limit int) ([]api.Step, int) {
	var steps []api.Step
	limit = max(limit, 0)
	at := 0
	for {
		line, rest, ok := bytes.Cut(raw[at:], []byte("\n"))
		if !ok {
			return steps, len(raw) - at
		}
		text := strings.TrimSuffix(string(line), "\r")
		c, block, w := modelLine(rows, text)
		s := api.Step{Command: c, Wrong: w, From: at, To: len(raw) - len(rest)}
		if w.Kind != 0 && w.Pass <= limit {
			block = w.Pass
		}
		if block >= 0 {
			if len(rest) < block {
				return steps, len(raw) - at
			}
			ending, _, ok := bytes.Cut(rest[block:], []byte("\n"))
			if !ok {
				return steps, len(raw) - at
			}
			s.To += block + len(ending) + 1
			if w.Kind == 0 {
				switch {
				case block > limit:
					s.Command.Large = true
				case string(ending) == "\r":
					s.Command.Data = rest[:block]
				default:
					s.Command, s.Wrong = api.Command{}, client(badBlock, -1)
				}
			}
		}
		steps = append(steps, s)
		if s.Command.Verb == api.Quit {
			return steps, 0
		}
		at = s.To
	}
}

// modelForm: can a command be written down? It goes by the fields, and by how long the line is.
func modelForm(rows []verbRow, c api.Command) bool {
	at := -1
	for i, r := range rows {
		if r.told.Verb == c.Verb {
			at = i
		}
	}
	if at < 0 || c.Large {
		return false
	}
	used := uses(c.Verb)
	for field, zero := range map[string]bool{
		"Keys": len(c.Keys) == 0, "Flags": c.Flags == 0, "Exptime": c.Exptime == 0, "Token": c.Token == 0, "Delta": c.Delta == 0,
		"Data": len(c.Data) == 0, "Noreply": !c.Noreply, "Meta": len(c.Meta) == 0, "What": c.What == "",
	} {
		if !strings.Contains(used, field) && !zero {
			return false
		}
	}
	if strings.Contains(used, "Keys") && (len(c.Keys) == 0 || len(c.Keys) > 1 && c.Verb > api.Gats) {
		return false
	}
	for _, k := range c.Keys {
		if !isKeyWord(k) {
			return false
		}
	}
	if c.Flags > 1<<32-1 || c.Verb == api.FlushAll && c.Exptime < 0 || c.What != "" && c.What != "reset" || modelFlags(c.Verb, c.Meta) != "" {
		return false
	}
	return len(modelText(rows[at], c)) <= 2048
}

// modelText is the line of a command that can be written down but for its length.
func modelText(r verbRow, c api.Command) string {
	out := r.spelled
	keys := 0
	for i := 0; i < r.least; i++ {
		switch r.slots[i].kind {
		case "K":
			out += " " + c.Keys[0]
			keys++
		case "F":
			out += " " + strconv.FormatUint(c.Flags, 10)
		case "T":
			out += " " + strconv.FormatInt(int64(c.Exptime), 10)
		case "N":
			out += " " + strconv.Itoa(len(c.Data))
		case "C":
			out += " " + strconv.FormatUint(c.Token, 10)
		case "D":
			out += " " + strconv.FormatUint(c.Delta, 10)
		case "V":
			out += " 1"
		}
	}
	for _, k := range c.Keys[keys:] {
		out += " " + k
	}
	if c.Verb == api.FlushAll && c.Exptime > 0 {
		out += " " + strconv.Itoa(c.Exptime)
	}
	if c.What != "" {
		out += " " + c.What
	}
	for _, f := range c.Meta {
		out += " " + string([]byte{f.Letter}) + f.Arg
	}
	if c.Noreply {
		out += " noreply"
	}
	return out
}
