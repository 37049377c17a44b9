package reply_test

import (
	"bytes"
	"fmt"
	"reflect"
	"slices"
	"strings"
	"testing"

	"granary/api"
	"granary/reply"
)

const (
	least    = -1 << 63
	greatest = 1<<63 - 1
)

// verbs is how many there are: from 1 on.
const verbs = 24

func cmd(verb int, keys ...string) api.Command { return api.Command{Verb: verb, Keys: keys} }

func quiet(c api.Command) api.Command { c.Noreply = true; return c }

func what(w string) api.Command { return api.Command{Verb: api.Stats, What: w} }

func kind(kind int) api.Answer { return api.Answer{Kind: kind} }

func number(n uint64) api.Answer { return api.Answer{Kind: api.Number, Number: n} }

func told(text string) api.Answer { return api.Answer{Kind: api.Told, Text: text} }

func refused(text string) api.Answer { return api.Answer{Kind: api.Refused, Text: text} }

func values(l ...api.Entry) api.Answer { return api.Answer{Kind: api.Values, Entries: l} }

func entry(key, value string) api.Entry { return api.Entry{Key: key, Value: []byte(value)} }

func flags(e api.Entry, n uint64) api.Entry { e.Flags = n; return e }

func token(e api.Entry, n uint64) api.Entry { e.Token = n; return e }

func stats(l ...api.StatLine) api.Answer { return api.Answer{Kind: api.Stat, Stats: l} }

func stat(name string, n uint64) api.StatLine { return api.StatLine{Name: name, Value: n} }

func meta(text string) api.Answer { return api.Answer{Kind: api.Meta, Text: text} }

// block is a line of a meta verb with its value.
func block(text, value string) api.Answer {
	return api.Answer{Kind: api.Meta, Text: text, Entries: []api.Entry{{Value: []byte(value)}}}
}

func many(n int) string { return strings.Repeat("k", n) }

// lines writes the end of each line, which stands as | in the tests.
func lines(text string) string { return strings.ReplaceAll(text, "|", "\r\n") }

// plain makes nil and empty lists one.
func plain(r api.Answer) api.Answer {
	r.Entries = append([]api.Entry(nil), r.Entries...)
	for i, e := range r.Entries {
		r.Entries[i].Value = append([]byte(nil), e.Value...)
	}
	r.Stats = append([]api.StatLine(nil), r.Stats...)
	return r
}

// heard is what can be read again of an answer.
func heard(c api.Command, r api.Answer) api.Answer {
	r = plain(r)
	for i, e := range r.Entries {
		h := api.Entry{Value: e.Value}
		if r.Kind == api.Values {
			h.Key, h.Flags = e.Key, e.Flags
			if c.Verb == api.Gets || c.Verb == api.Gats {
				h.Token = e.Token
			}
		}
		r.Entries[i] = h
	}
	return r
}

func same(a, b api.Answer) bool { return reflect.DeepEqual(plain(a), plain(b)) }

// brief is the beginning of an answer, for telling it: a great value would be a great text.
func brief(r api.Answer) string {
	r = plain(r)
	for i, e := range r.Entries {
		r.Entries[i].Value = e.Value[:min(len(e.Value), 40)]
	}
	r.Entries = r.Entries[:min(len(r.Entries), 5)]
	text := fmt.Sprintf("%+v", r)
	return text[:min(len(text), 400)]
}

// reads: the first n bytes are the reply.
func reads(t *testing.T, c api.Command, raw string, must api.Answer, n int) {
	t.Helper()
	if a, k, e := reply.Read(c, []byte(raw)); !same(a, must) || k != n || e != api.OK {
		t.Errorf("verb %d, Read(%.80q) is %s, %d, %v, not %s, %d", c.Verb, raw, brief(a), k, e, brief(must), n)
	}
}

// wants: more is wanted.
func wants(t *testing.T, c api.Command, raw string) {
	t.Helper()
	reads(t, c, raw, api.Answer{}, 0)
}

// bad: it is no reply, whatever comes behind it.
func bad(t *testing.T, c api.Command, raw string) {
	t.Helper()
	for _, tail := range []string{"", "\r", "\r\n", "\n", " ", "x", "0", "\r\nEND\r\n", " 0 1\r\nx\r\nEND\r\n", many(5000)} {
		if a, n, e := reply.Read(c, []byte(raw+tail)); !same(a, api.Answer{}) || n != 0 || e != api.ErrForm {
			t.Errorf("verb %d, Read(%.80q and %.20q) is %s, %d, %v, not ErrForm", c.Verb, raw, tail, brief(a), n, e)
		}
	}
}

// beginnings are lengths of lesser beginnings of a reply: all of a short one.
func beginnings(n int) []int {
	var at []int
	for i := range n {
		if i < 3000 || i > n-300 || i%4999 == 0 {
			at = append(at, i)
		}
	}
	return at
}

// fits: a command may be answered so, and these are the bytes, which are read again, whatever follows them.
func fits(t *testing.T, c api.Command, r api.Answer, must string) {
	t.Helper()
	if !reply.Fits(c, r) {
		t.Errorf("verb %d: %s does not fit", c.Verb, brief(r))
	}
	if b, e := reply.Bytes(c, r); string(b) != must || e != api.OK {
		t.Errorf("verb %d: Bytes of %s are %.200q, %v, not %.200q", c.Verb, brief(r), b, e, must)
	}
	if b, e := reply.Bytes(quiet(c), r); len(b) != 0 || e != api.OK || !reply.Fits(quiet(c), r) {
		t.Errorf("verb %d, Noreply: Bytes of %s are %.200q, %v", c.Verb, brief(r), b, e)
	}
	if r.Kind == api.Nothing {
		return
	}
	back := heard(c, r)
	for _, tail := range []string{"", "\r\n", "END\r\n", "VALUE a", "x", "0", "\x00", must} {
		reads(t, c, must+tail, back, len(must))
	}
	raw := []byte(must)
	for _, at := range beginnings(len(raw)) {
		if a, n, e := reply.Read(c, raw[:at]); n != 0 || e != api.OK || !same(a, api.Answer{}) {
			t.Fatalf("verb %d: %d bytes of %.200q are read as %s, %d, %v", c.Verb, at, must, brief(a), n, e)
		}
	}
}

// unfit: no command may be answered so.
func unfit(t *testing.T, c api.Command, r api.Answer) {
	t.Helper()
	for _, c := range []api.Command{c, quiet(c)} {
		if reply.Fits(c, r) {
			t.Errorf("verb %d, noreply %v: %s fits", c.Verb, c.Noreply, brief(r))
		}
		if b, e := reply.Bytes(c, r); len(b) != 0 || e != api.ErrForm {
			t.Errorf("verb %d, noreply %v: Bytes of %s are %.200q, %v", c.Verb, c.Noreply, brief(r), b, e)
		}
	}
}

// A sample is an answer that fits a command, with its bytes.
type sample struct {
	c    api.Command
	r    api.Answer
	text string
}

// samples has each kind of each verb that tells bytes.
func samples() []sample {
	var all []sample
	add := func(c api.Command, r api.Answer, text string) { all = append(all, sample{c, r, lines(text)}) }
	for _, v := range []int{api.Get, api.Gat} {
		add(cmd(v, "a"), values(), "END|")
		add(cmd(v, "a", "ab", "a", "b"), values(entry("a", "x"), flags(entry("a", "END\r\n"), 7), entry("b", "")), "VALUE a 0 1|x|VALUE a 7 5|END||VALUE b 0 0||END|")
	}
	for _, v := range []int{api.Gets, api.Gats} {
		add(cmd(v), values(), "END|")
		add(cmd(v, "a", "b"), values(token(flags(entry("a", "VALUE b"), api.MaxFlags), api.MaxNumber), token(entry("b", "y"), 0)), "VALUE a 4294967295 7 18446744073709551615|VALUE b|VALUE b 0 1 0|y|END|")
	}
	for v := api.Set; v <= api.Cas; v++ {
		add(cmd(v, "a"), kind(api.Stored), "STORED|")
		if v != api.Cas {
			add(cmd(v, "a"), kind(api.NotStored), "NOT_STORED|")
		}
	}
	add(cmd(api.Cas, "a"), kind(api.Exists), "EXISTS|")
	for _, v := range []int{api.Cas, api.Delete, api.Incr, api.Decr, api.Touch} {
		add(cmd(v, "a"), kind(api.NotFound), "NOT_FOUND|")
	}
	add(cmd(api.Delete, "a"), kind(api.Deleted), "DELETED|")
	add(cmd(api.Touch, "a"), kind(api.Touched), "TOUCHED|")
	for _, v := range []int{api.Incr, api.Decr} {
		add(cmd(v, "a"), number(0), "0|")
		add(cmd(v, "a"), number(api.MaxNumber), "18446744073709551615|")
	}
	add(cmd(api.FlushAll), kind(api.Fine), "OK|")
	add(cmd(api.Verbosity), kind(api.Fine), "OK|")
	add(cmd(api.Version), told("granary 1"), "VERSION granary 1|")
	add(cmd(api.Stats), stats(), "END|")
	add(what("items"), stats(stat("END", 0), stat("a", api.MaxNumber)), "STAT END 0|STAT a 18446744073709551615|END|")
	add(what("reset"), kind(api.Reset), "RESET|")
	for v := api.MetaGet; v <= api.MetaNoop; v++ {
		for _, code := range codesOf(v) {
			switch code {
			case "VA":
				add(cmd(v, "a"), block("VA 0", ""), "VA 0||")
				add(cmd(v, "a"), block("VA 6 ka Ox W", "EN\r\nHD"), "VA 6 ka Ox W|EN\r\nHD|")
			case "EN", "MN":
				add(cmd(v, "a"), meta(code), code+"|")
			default:
				add(cmd(v, "a"), meta(code), code+"|")
				add(cmd(v, "a"), meta(code+" f7 \xff\x80 k~"), code+" f7 \xff\x80 k~|")
			}
		}
	}
	for v := 1; v <= verbs; v++ {
		if v != api.Quit {
			add(cmd(v, "a"), refused("ERROR"), "ERROR|")
			add(cmd(v, "a"), refused("CLIENT_ERROR bad  data"), "CLIENT_ERROR bad  data|")
			add(cmd(v, "a"), refused("SERVER_ERROR !"), "SERVER_ERROR !|")
		}
	}
	return all
}

// codesOf are the codes of a meta verb, as P13.1 has them.
func codesOf(verb int) []string {
	switch verb {
	case api.MetaGet:
		return []string{"HD", "VA", "EN"}
	case api.MetaSet:
		return []string{"HD", "NS", "EX", "NF"}
	case api.MetaDelete:
		return []string{"HD", "EX", "NF"}
	case api.MetaArith:
		return []string{"HD", "VA", "NF", "NS", "EX"}
	case api.MetaNoop:
		return []string{"MN"}
	}
	return nil
}

const filler = "!!!!!!!!!!!!!!!!"

// spare is a row of bytes with room behind it, which is filled.
func spare(text string) []byte { return append([]byte(text), filler...)[:len(text)] }

// isSpare: is it as it was, the room behind it too?
func isSpare(p []byte, text string) bool {
	return bytes.Equal(p[:len(text)+len(filler)], []byte(text+filler))
}

// Every verb has a sample, but for quit, which is told nothing.
func TestSamples(t *testing.T) {
	for v := 1; v <= verbs; v++ {
		if has := slices.ContainsFunc(samples(), func(s sample) bool { return s.c.Verb == v && s.r.Kind != api.Refused }); has == (v == api.Quit) {
			t.Errorf("verb %d has samples: %v", v, has)
		}
	}
	for _, s := range samples() {
		fits(t, s.c, s.r, s.text)
	}
}
