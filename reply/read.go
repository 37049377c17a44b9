package reply

import (
	"strings"

	"granary/api"
)

// reader reads one reply from its beginning on.
type reader struct {
	raw []byte
	at  int
}

// givenUp says why a reading ended: OK, as more is wanted, or ErrForm.
type givenUp api.Errno

// more ends a reading whose bytes a reply may begin with.
func more() { panic(givenUp(api.OK)) }

// ask ends a reading, unless what was read may stand there.
func ask(right bool) {
	if !right {
		panic(givenUp(api.ErrForm))
	}
}

// why is what a reading that gave up tells. A panic of any other kind is a fault of the program, and goes on.
func why(cause any) api.Errno {
	e, ok := cause.(givenUp)
	if !ok {
		panic(cause)
	}
	return api.Errno(e)
}

// attempt reads a reply of one kind: how many bytes it has, 0 if it is none, or none yet.
func attempt(c api.Command, kind int, raw []byte) (a api.Answer, n int, e api.Errno) {
	defer func() {
		if cause := recover(); cause != nil {
			a, n, e = api.Answer{}, 0, why(cause)
		}
	}()
	r := &reader{raw: raw}
	a = r.answer(c, kind)
	a.Kind = kind
	// What is not whole yet is read again with each piece that comes: only what is whole is worth a copy.
	for i, entry := range a.Entries {
		a.Entries[i].Value = append([]byte(nil), entry.Value...)
	}
	return a, r.at, api.OK
}

// answer reads the fields that a kind uses.
func (r *reader) answer(c api.Command, kind int) (a api.Answer) {
	switch kind {
	case api.Values:
		a.Entries = r.entries(c.Keys, tellsToken(c.Verb))
	case api.Number:
		a.Number = r.number(api.MaxNumber)
		r.oneOf(lineEnd)
	case api.Told:
		r.oneOf(versionLine + " ")
		a.Text = r.words()
		r.oneOf(lineEnd)
	case api.Stat:
		a.Stats = r.stats()
	case api.Meta:
		a.Text, a.Entries = r.meta(c.Verb)
	case api.Refused:
		a.Text = r.refusal()
	case api.Nothing: // it has no bytes that could be read
		ask(false)
	default:
		r.oneOf(word(kind) + lineEnd)
	}
	return a
}

// entries reads the lines of values, of keys that may come yet. Their values are the bytes that were handed in.
func (r *reader) entries(keys []string, withToken bool) []api.Entry {
	var entries []api.Entry
	for {
		keys = legal(keys)
		if len(keys) == 0 {
			r.oneOf(endLine + lineEnd)
			return entries
		}
		if r.oneOf(entryLine+" ", endLine+lineEnd) != entryLine+" " {
			return entries
		}
		var e api.Entry
		e.Key, keys = r.key(keys)
		e.Flags = r.number(api.MaxFlags)
		r.oneOf(" ")
		length := r.number(api.MaxPage)
		if withToken {
			r.oneOf(" ")
			e.Token = r.number(api.MaxNumber)
		}
		r.oneOf(lineEnd)
		e.Value = r.block(int(length))
		entries = append(entries, e)
	}
}

// legal are the keys from the first one on that an entry may have.
func legal(keys []string) []string {
	for i, k := range keys {
		if isKey(k) {
			return keys[i:]
		}
	}
	return nil
}

// key reads one of the keys, and the blank behind it, and tells those that may follow: the first place leaves the most of them.
func (r *reader) key(keys []string) (string, []string) {
	rest := r.raw[r.at:]
	rest = rest[:min(len(rest), api.MaxKey+1)]
	text := string(rest)
	begun := false
	for i, k := range keys {
		switch {
		case !isKey(k):
		case strings.HasPrefix(k, text):
			begun = true
		case strings.HasPrefix(text, k) && text[len(k)] == ' ':
			r.at += len(k) + 1
			return k, keys[i+1:]
		}
	}
	ask(begun)
	more()
	return "", nil
}

func (r *reader) stats() []api.StatLine {
	var stats []api.StatLine
	for r.oneOf(statLine+" ", endLine+lineEnd) == statLine+" " {
		var s api.StatLine
		s.Name = r.word(api.MaxKey, isInName)
		r.oneOf(" ")
		s.Value = r.number(api.MaxNumber)
		r.oneOf(lineEnd)
		stats = append(stats, s)
	}
	return stats
}

// meta reads a line of a meta verb, and its block, if it has one.
func (r *reader) meta(verb int) (string, []api.Entry) {
	code := r.oneOf(codes(verb)...)
	length := 0
	if code == codeValue {
		r.oneOf(" ")
		length = int(r.number(api.MaxPage))
	}
	for !standsAlone(code) && r.next() == ' ' {
		r.at++
		r.word(min(maxFlag, api.MaxLine-r.at), isPlain)
	}
	text := string(r.raw[:r.at])
	r.oneOf(lineEnd)
	if code != codeValue {
		return text, nil
	}
	return text, []api.Entry{{Value: r.block(length)}}
}

func (r *reader) refusal() string {
	if r.oneOf(plainError+lineEnd, clientError+" ", serverError+" ") == plainError+lineEnd {
		return plainError
	}
	r.words()
	text := string(r.raw[:r.at])
	r.oneOf(lineEnd)
	return text
}

// oneOf reads one of some texts, of which none begins another one.
func (r *reader) oneOf(texts ...string) string {
	rest := r.raw[r.at:]
	begun := false
	for _, t := range texts {
		n := min(len(t), len(rest))
		if t[:n] != string(rest[:n]) {
			continue
		}
		if n == len(t) {
			r.at += n
			return t
		}
		begun = true
	}
	ask(begun)
	more()
	return ""
}

// next is the byte that comes next, which is not taken.
func (r *reader) next() byte {
	if r.at == len(r.raw) {
		more()
	}
	return r.raw[r.at]
}

// number reads digits, without zeros ahead. Behind them another byte must stand.
func (r *reader) number(most uint64) uint64 {
	begin := r.at
	n := uint64(0)
	for isDigit(r.next()) && (n > 0 || r.at == begin) {
		digit := uint64(r.next() - '0')
		ask(n <= (most-digit)/10)
		n = n*10 + digit
		r.at++
	}
	ask(r.at > begin)
	return n
}

func isDigit(b byte) bool { return b >= '0' && b <= '9' }

// run takes as many bytes as may stand there, most at most.
func (r *reader) run(most int, may func(byte) bool) string {
	begin := r.at
	for r.at < len(r.raw) && r.at-begin < most && may(r.raw[r.at]) {
		r.at++
	}
	return string(r.raw[begin:r.at])
}

// word reads one word. Behind it another byte must stand.
func (r *reader) word(most int, may func(byte) bool) string {
	ask(most > 0)
	text := r.run(most, may)
	r.next()
	ask(text != "")
	return text
}

// words reads words up to a byte that is none of theirs.
func (r *reader) words() string {
	text := r.run(maxWords, isShown)
	if r.at == len(r.raw) {
		// A blank at their end needs one byte more, for which there may be no room.
		ask(isWords(text) || isWords(text+"x"))
		more()
	}
	ask(isWords(text))
	return text
}

// block takes the bytes of a value, whatever they are, and the end behind them.
func (r *reader) block(n int) []byte {
	if len(r.raw)-r.at < n {
		more()
	}
	value := r.raw[r.at : r.at+n]
	r.at += n
	r.oneOf(lineEnd)
	return value
}
