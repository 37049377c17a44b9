package words_test

import (
	"math/rand"
	"strconv"
	"strings"
	"testing"

	"granary/api"
	"granary/words"
)

// A source makes rows of bytes and commands; each seed makes its own.
type source struct {
	*rand.Rand
	rows []verbRow
}

func newSource(seed int64) source { return source{rand.New(rand.NewSource(seed)), table()} }

func (s source) one(of ...string) string { return of[s.Intn(len(of))] }

// word is one that may be right in some place of a line, or in none.
func (s source) word() string {
	switch s.Intn(8) {
	case 0:
		return s.one("0", "1", "2", "3", "5", "00", "007", "-0", "-1", "12", "9", "10", "99")
	case 1:
		return s.one("4294967295", "4294967296", "2147483647", "2147483648", "18446744073709551615", "18446744073709551616", "9223372036854775807", "9223372036854775808", "-9223372036854775808", "-9223372036854775809")
	case 2:
		return s.one("noreply", "reset", "get", "quit", "Noreply", "x", "-", "+1")
	case 3:
		return s.one(many(250), many(251), "a\tb", "\x7f", "\x00", "a\r", "\xff", "\xc3\xa9")
	case 4:
		return s.one("k", "q", "v", "f", "c", "t", "s", "h", "l", "I", "z")
	case 5:
		return s.one("O", "Oxy", "O"+many(32), "O"+many(33), "T5", "T-1", "Tx", "T", "N0", "R30", "R-1", "F7", "F4294967296", "C1", "C", "MS", "Me", "MI", "Md", "MX", "D5", "J9", "k1")
	}
	return s.one("a", "b", "c", "key", "n")
}

// line is one of a verb's, mostly right.
func (s source) line() string {
	r := s.rows[s.Intn(len(s.rows))]
	w := r.words()
	if len(r.slots) > r.least && s.Intn(3) == 0 {
		w = w[:1+r.least]
	}
	if i := r.lengthAt(); i > 0 {
		w[i] = strconv.Itoa(s.Intn(12))
	}
	for i := 1; i < len(w); i++ {
		if s.Intn(12) == 0 {
			w[i] = s.word()
		}
	}
	switch s.Intn(10) {
	case 0:
		w = append(w, s.word())
	case 1:
		w = w[:s.Intn(len(w)+1)]
	case 2, 3:
		w = append(w, "noreply")
	}
	return strings.Join(w, s.one(" ", " ", " ", "  ")) + s.one("", "", "", " ", "\r")
}

// raw is a row of bytes, of lines and blocks and what is none.
func (s source) raw() string {
	var b strings.Builder
	for range 1 + s.Intn(6) {
		b.WriteString(s.line() + s.one("\n", "\r\n"))
		if s.Intn(2) == 0 {
			b.WriteString("0123456789ab"[:s.Intn(13)] + s.one("\r\n", "\n", "\rx\n", "\r\n", "\r\n"))
		}
	}
	out := b.String()
	if s.Intn(4) == 0 {
		out = out[:s.Intn(len(out)+1)]
	}
	if s.Intn(8) == 0 && out != "" {
		at := s.Intn(len(out))
		out = out[:at] + s.one("\n", "\r", " ", "\x00", "quit\n", "5", "") + out[at+1:]
	}
	return out
}

// The package and the model tell the same of lines.
func TestModelOfLines(t *testing.T) {
	for seed := range int64(20) {
		s := newSource(seed)
		for range 5000 {
			line := s.line()
			c, n, w := words.Line([]byte(line))
			d, m, v := modelLine(s.rows, line)
			if !sameCommand(c, d) || n != m || w != v {
				t.Fatalf("Line(%.200q) is %v, %d, %v, the model says %v, %d, %v", line, c, n, w, d, m, v)
			}
		}
	}
}

// The package and the model tell the same of rows of bytes.
func TestModelOfAll(t *testing.T) {
	for seed := range int64(20) {
		s := newSource(100 + seed)
		for range 3000 {
			raw := s.raw()
			limit := s.Intn(14) - 1
			l, n := words.All([]byte(raw), limit)
			k, m := modelAll(s.rows, []byte(raw), limit)
			if !sameSteps(l, k) || n != m {
				t.Fatalf("All(%.300q, %d) is %v, %d, the model says %v, %d", raw, limit, l, n, k, m)
			}
			s.follows(t, l)
		}
	}
}

// follows: P11.11 and P11.9 of the commands that were told.
func (s source) follows(t *testing.T, l []api.Step) {
	t.Helper()
	for _, x := range l {
		c := x.Command
		if c.Verb == 0 {
			continue
		}
		c.Large = false
		if x.Command.Large && len(c.Data) != 0 || !modelForm(s.rows, c) {
			t.Fatalf("%v was told", x)
		}
		b, e := words.Bytes(c)
		if e != api.OK {
			t.Fatalf("Bytes(%v) is %v", c, e)
		}
		for _, limit := range []int{len(c.Data), len(c.Data) + 1, greatest} {
			all(t, string(b), limit, done(c, 0))
		}
	}
}

// command is one with any fields, mostly those that its verb uses.
func (s source) command() api.Command {
	c := s.rows[s.Intn(len(s.rows))].told
	if s.Intn(3) == 0 {
		c.Verb = s.Intn(26)
	}
	used := uses(c.Verb)
	some := func(field string) bool {
		if strings.Contains(used, field) {
			return s.Intn(2) == 0
		}
		return s.Intn(40) == 0
	}
	if some("Keys") {
		c.Keys = nil
		for range 1 + s.Intn(2)*s.Intn(2) {
			c.Keys = append(c.Keys, s.one("a", "b", "noreply", "0", s.word(), many(250), "a b", ""))
		}
	}
	if some("Flags") {
		c.Flags = []uint64{0, 7, 1<<32 - 1, 1 << 32, 1<<64 - 1}[s.Intn(5)]
	}
	if some("Exptime") {
		c.Exptime = []int{0, 5, -1, least, greatest}[s.Intn(5)]
	}
	if some("Token") {
		c.Token = []uint64{0, 7, 1<<64 - 1}[s.Intn(3)]
	}
	if some("Delta") {
		c.Delta = []uint64{0, 7, 1<<64 - 1}[s.Intn(3)]
	}
	if some("Data") {
		c.Data = []byte(s.one("", "x", "a\r\nb", "quit\n"))
	}
	c.Noreply = some("Noreply")
	c.Large = s.Intn(30) == 0
	if some("Meta") {
		c.Meta = nil
		for range s.Intn(4) {
			w := s.word()
			c.Meta = append(c.Meta, api.Flag{Letter: w[0], Arg: w[1:], Has: len(w) > 1 != (s.Intn(20) == 0)})
		}
	}
	if some("What") {
		c.What = s.one("", "reset", "items")
	}
	return c
}

// The package and the model write the same commands, and refuse the same; what is written is told back.
func TestModelOfBytes(t *testing.T) {
	fine, not := 0, 0
	for seed := range int64(20) {
		s := newSource(200 + seed)
		for range 5000 {
			c := s.command()
			if !modelForm(s.rows, c) {
				not++
				noForm(t, c)
				continue
			}
			fine++
			for _, r := range s.rows {
				if r.told.Verb == c.Verb {
					must := modelText(r, c) + "\r\n"
					if r.block >= 0 {
						must += string(c.Data) + "\r\n"
					}
					writes(t, c, must)
				}
			}
		}
	}
	if fine < 10000 || not < 10000 {
		t.Errorf("%d commands could be written, %d not: that tells little", fine, not)
	}
}

// The package and the model tell the same of flags.
func TestModelOfFlags(t *testing.T) {
	for seed := range int64(20) {
		s := newSource(300 + seed)
		for range 5000 {
			v := s.Intn(26)
			if s.Intn(4) > 0 {
				v = []int{api.MetaGet, api.MetaSet, api.MetaDelete, api.MetaArith}[s.Intn(4)]
			}
			var l []api.Flag
			for range s.Intn(6) {
				w := s.word()
				l = append(l, api.Flag{Letter: w[0], Arg: w[1:], Has: len(w) > 1 != (s.Intn(20) == 0)})
			}
			is(t, modelFlags(v, l), v, l...)
		}
	}
}

// R1: every call ends and none panics, whatever bytes it is given; and R4: it tells the same again.
func TestWild(t *testing.T) {
	s := newSource(400)
	for range 3000 {
		raw := make([]byte, s.Intn(200))
		for i := range raw {
			raw[i] = s.one("\n", "\r", " ", "0", "1", "a", "g", "e", "t", "m", "s", "\xff", "\x00")[0]
			if s.Intn(3) == 0 {
				raw[i] = byte(s.Intn(256))
			}
		}
		limit := []int{least, -1, 0, 5, 100, greatest}[s.Intn(6)]
		one, n := words.All(raw, limit)
		two, m := words.All(raw, limit)
		must, left := modelAll(s.rows, raw, limit)
		if !sameSteps(one, two) || n != m || !sameSteps(one, must) || n != left {
			t.Fatalf("All(%q, %d) is %v, %d, and %v, %d, the model says %v, %d", raw, limit, one, n, two, m, must, left)
		}
		at := 0
		for _, x := range one {
			if x.From != at || x.To <= at || x.To > len(raw) {
				t.Fatalf("All(%q, %d): a step from %d to %d", raw, limit, x.From, x.To)
			}
			at = x.To
		}
	}
}
