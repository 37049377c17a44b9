package reply_test

import (
	"math/rand"
	"slices"
	"strconv"
	"strings"
	"testing"

	"granary/api"
	"granary/reply"
)

// looked holds Read against the plain rules, and what it tells against Fits and Bytes (P13.5). It tells what it was.
func looked(t *testing.T, c api.Command, rules rule, raw []byte) int {
	t.Helper()
	want := rules.must(t, string(raw))
	a, n, e := reply.Read(c, raw)
	switch {
	case want < 0 && (e != api.ErrForm || n != 0 || !same(a, api.Answer{})),
		want == 0 && (e != api.OK || n != 0 || !same(a, api.Answer{})),
		want > 0 && (e != api.OK || n != want):
		t.Fatalf("verb %d, keys %q: Read(%.300q) is %s, %d, %v; it is %d by the rules", c.Verb, c.Keys, raw, brief(a), n, e, want)
	case want > 0:
		if b, e := reply.Bytes(c, a); !reply.Fits(c, a) || e != api.OK || string(b) != string(raw[:n]) || !same(a, heard(c, a)) {
			t.Fatalf("verb %d: %.300q is read as %s, whose bytes are %.300q, %v", c.Verb, raw, brief(a), b, e)
		}
	}
	return want
}

// lasts: P13.6: of all beginnings more is wanted first; then it is ErrForm for good, or the same answer for good.
func lasts(t *testing.T, c api.Command, raw []byte) {
	t.Helper()
	last := 0
	var first api.Answer
	for at := range len(raw) + 1 {
		now := -1
		a, n, e := reply.Read(c, raw[:at])
		if e == api.OK {
			now = n
		}
		switch {
		case last != 0 && (now != last || !same(a, first)):
			t.Fatalf("verb %d: %.300q: %d bytes tell %d, one less %d", c.Verb, raw, at, now, last)
		case last == 0 && now != 0:
			last, first = now, a
		}
	}
}

// turns are the bytes that one is turned into: every one, but of what is refused, which all verbs have alike.
func turns(s sample) []byte {
	few := []byte{0, 9, 10, 13, 31, 32, 33, '0', '1', '9', 'E', 'N', 'S', 'V', 'a', 'b', '~', 127, 128, 255}
	if s.r.Kind == api.Refused {
		return few
	}
	var all []byte
	for b := range 256 {
		all = append(all, byte(b))
	}
	return all
}

// P13.4, P13.6: each reply with one byte turned.
func TestTurned(t *testing.T) {
	for _, s := range samples() {
		rules := replies(s.c)
		raw := []byte(s.text + "END\r\nSTORED\r\n")
		for at := range len(s.text) {
			was := raw[at]
			for _, b := range turns(s) {
				raw[at] = b
				looked(t, s.c, rules, raw)
				looked(t, s.c, rules, raw[:at+1])
			}
			for _, b := range []byte{0, 10, 13, 32, '0', '9', 'E', 127} {
				raw[at] = b
				lasts(t, s.c, raw)
			}
			raw[at] = was
		}
	}
}

// One byte left out, and one more between.
func TestLeftOut(t *testing.T) {
	for _, s := range samples() {
		rules := replies(s.c)
		raw := []byte(s.text + "END\r\n")
		for at := range len(s.text) {
			looked(t, s.c, rules, slices.Delete(slices.Clone(raw), at, at+1))
			for _, b := range []byte{10, 13, 32, '0', '1', 'E', 'k', 127} {
				more := slices.Insert(slices.Clone(raw), at, b)
				looked(t, s.c, rules, more)
				looked(t, s.c, rules, more[:at+1])
				lasts(t, s.c, more)
			}
		}
	}
}

// pieces are what random replies are made of, right and wrong ones.
func pieces() []string {
	return []string{"VALUE ", "END\r\n", "a", "b", "ab", " ", " ", "\r\n", "\r\n", "0", "1", "7", "10", "4294967295", "4294967296", "1048576", "1048577", "18446744073709551615", "18446744073709551616", "x", "STAT ", "VERSION ", "ERROR\r\n", "CLIENT_ERROR ", "SERVER_ERROR ", "HD", "VA ", "EN", "NS", "EX", "NF", "MN", "k", "W", "\x7f", "\xff", "\x00", "STORED\r\n", "NOT_", "FOUND\r\n", "OK\r\n", "RESET\r\n", "DELETED\r\n", "TOUCHED\r\n", "EXISTS\r\n", many(250), many(251), many(255), strings.Repeat("z ", 255)}
}

// Random rows of pieces, most of them behind the beginning of a reply.
func TestRandomRows(t *testing.T) {
	r := rand.New(rand.NewSource(13))
	all, right := pieces(), samples()
	seen := map[int]int{}
	for range 40000 {
		s := right[r.Intn(len(right))]
		raw := ""
		if r.Intn(4) > 0 {
			raw = s.text[:r.Intn(len(s.text))]
		}
		for range r.Intn(4) {
			raw += all[r.Intn(len(all))]
		}
		seen[min(1, looked(t, s.c, replies(s.c), []byte(raw)))]++
	}
	if seen[-1] < 1000 || seen[0] < 1000 || seen[1] < 100 {
		t.Errorf("too few of a kind: %v", seen)
	}
}

// randomWord is a text of some bytes, most of them right.
func randomWord(r *rand.Rand, most int) string {
	b := make([]byte, r.Intn(most+1))
	for i := range b {
		b[i] = byte(33 + r.Intn(94))
		if r.Intn(60) == 0 {
			b[i] = byte(r.Intn(256))
		}
	}
	return string(b)
}

// randomAnswer is an answer of any kind, of which most fit their command.
func randomAnswer(r *rand.Rand, c api.Command) api.Answer {
	all := kindsOf(c)
	a := kind(all[r.Intn(len(all))])
	switch a.Kind {
	case api.Values:
		for _, k := range c.Keys {
			if r.Intn(2) == 0 {
				a.Entries = append(a.Entries, token(flags(entry(k, randomWord(r, 40)), r.Uint64()>>(30+r.Intn(34))), r.Uint64()))
			}
		}
		if len(a.Entries) > 1 && r.Intn(5) == 0 {
			a.Entries[0], a.Entries[1] = a.Entries[1], a.Entries[0]
		}
	case api.Number:
		a.Number = r.Uint64() >> r.Intn(64)
	case api.Told:
		a.Text = randomWord(r, 20) + " " + randomWord(r, 20)
	case api.Refused:
		a.Text = []string{"ERROR", "CLIENT_ERROR ", "SERVER_ERROR "}[r.Intn(3)] + randomWord(r, 5)
	case api.Stat:
		for range r.Intn(4) {
			a.Stats = append(a.Stats, stat(randomWord(r, 9), r.Uint64()>>r.Intn(64)))
		}
	case api.Meta:
		value := randomWord(r, 20)
		a = meta([]string{"HD", "VA", "EN", "NS", "EX", "NF", "MN"}[r.Intn(7)])
		if a.Text == "VA" && r.Intn(9) > 0 {
			a = block("VA "+strconv.Itoa(len(value)+r.Intn(20)/19), value)
		}
		for range r.Intn(3) {
			a.Text += " " + randomWord(r, 9)
		}
	}
	return a
}

// loose is how an answer would be written, whether it fits or not.
func loose(c api.Command, a api.Answer) string {
	switch a.Kind {
	case api.Values:
		return laid(c.Verb, a.Entries...)
	case api.Number:
		return strconv.FormatUint(a.Number, 10) + "\r\n"
	case api.Told:
		return "VERSION " + a.Text + "\r\n"
	case api.Refused:
		return a.Text + "\r\n"
	case api.Stat:
		out := ""
		for _, s := range a.Stats {
			out += "STAT " + s.Name + " " + strconv.FormatUint(s.Value, 10) + "\r\n"
		}
		return out + "END\r\n"
	case api.Meta:
		return line(a)
	}
	_, word := some(c, a.Kind)
	return word
}

// P13.1, P13.5: an answer fits just if the rules have what it would be written as (a kind that tells no bytes always does).
func TestRandomAnswers(t *testing.T) {
	r := rand.New(rand.NewSource(14))
	seen := map[bool]int{}
	for range 40000 {
		c := cmd(1 + r.Intn(verbs))
		for range r.Intn(5) {
			c.Keys = append(c.Keys, []string{"a", "b", "ab", "", "a b", randomWord(r, 4)}[r.Intn(6)])
		}
		a := randomAnswer(r, c)
		text := loose(c, a)
		may := a.Kind == api.Nothing || replies(c).must(t, text) == len(text)
		seen[may]++
		b, e := reply.Bytes(c, a)
		switch {
		case reply.Fits(c, a) != may:
			t.Fatalf("verb %d, keys %q: %s fits: %v", c.Verb, c.Keys, brief(a), !may)
		case !may && (e != api.ErrForm || len(b) > 0), may && (e != api.OK || string(b) != text):
			t.Fatalf("verb %d, keys %q: %s is written %.300q, %v", c.Verb, c.Keys, brief(a), b, e)
		case may && a.Kind != api.Nothing:
			reads(t, c, text+randomWord(r, 5), heard(c, a), len(text))
		}
	}
	if seen[true] < 1000 || seen[false] < 1000 {
		t.Errorf("too few of a kind: %v", seen)
	}
}

// P13.7: replies of several commands, one behind the other, are read one by one; those that are told nothing take no bytes.
func TestRow(t *testing.T) {
	r := rand.New(rand.NewSource(15))
	all := append(samples(), sample{cmd(api.Quit), api.Answer{}, ""}, sample{quiet(cmd(api.Set, "a")), api.Answer{}, ""}, sample{quiet(cmd(api.Incr, "a")), api.Answer{}, ""})
	for range 500 {
		var row []sample
		raw := ""
		for range 1 + r.Intn(30) {
			s := all[r.Intn(len(all))]
			row = append(row, s)
			raw += s.text
		}
		rest := raw
		for _, s := range row {
			reads(t, s.c, rest, heard(s.c, s.r), len(s.text))
			rest = rest[len(s.text):]
		}
		// The same, as the bytes come one by one.
		from, next := 0, 0
		for at := range len(raw) + 1 {
			for next < len(row) {
				s := row[next]
				a, n, e := reply.Read(s.c, []byte(raw[from:at]))
				if n == 0 && s.text != "" {
					if e != api.OK || at-from >= len(s.text) {
						t.Fatalf("%.200q: %d, %v", raw[from:at], n, e)
					}
					break
				}
				if n != len(s.text) || e != api.OK || !same(a, heard(s.c, s.r)) {
					t.Fatalf("%.200q is read as %s, %d, %v", raw[from:at], brief(a), n, e)
				}
				from, next = from+n, next+1
			}
		}
		if next != len(row) {
			t.Fatalf("%d of %d were read", next, len(row))
		}
	}
}
