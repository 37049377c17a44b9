package reply_test

import (
	"math/big"
	"slices"
	"strings"
	"testing"

	"granary/api"
)

// A rule is a set of texts: where those end that stand at a place, and whether some begin there and go on behind the end.
type rule func(s string, at int) (ends []int, more bool)

func lit(text string) rule {
	return func(s string, at int) ([]int, bool) {
		rest := s[at:]
		if strings.HasPrefix(rest, text) {
			return []int{at + len(text)}, false
		}
		return nil, strings.HasPrefix(text, rest)
	}
}

// run is some bytes of a set: from low to high of them.
func run(low, high int, may func(b byte) bool) rule {
	return func(s string, at int) ([]int, bool) {
		var ends []int
		for n := 0; n <= high; n++ {
			if n >= low {
				ends = append(ends, at+n)
			}
			if at+n == len(s) {
				return ends, n < high
			}
			if !may(s[at+n]) {
				break
			}
		}
		return ends, false
	}
}

func seq(rules ...rule) rule {
	return func(s string, at int) ([]int, bool) {
		places, more := []int{at}, false
		for _, r := range rules {
			var next []int
			for _, p := range places {
				ends, m := r(s, p)
				next, more = append(next, ends...), more || m
			}
			slices.Sort(next)
			places = slices.Compact(next)
		}
		return places, more
	}
}

func alt(rules ...rule) rule {
	return func(s string, at int) ([]int, bool) {
		var ends []int
		more := false
		for _, r := range rules {
			e, m := r(s, at)
			ends, more = append(ends, e...), more || m
		}
		return ends, more
	}
}

// star is a rule any number of times.
func star(r rule) rule {
	return func(s string, at int) ([]int, bool) {
		ends, more := []int{at}, false
		for i := 0; i < len(ends); i++ {
			next, m := r(s, ends[i])
			more = more || m
			for _, p := range next {
				if !slices.Contains(ends, p) {
					ends = append(ends, p)
				}
			}
		}
		return ends, more
	}
}

// within: nothing of a rule stands at a place from limit on.
func within(limit int, r rule) rule {
	return func(s string, at int) ([]int, bool) {
		if len(s) < limit {
			return r(s, at)
		}
		ends, _ := r(s[:limit], at)
		return ends, false
	}
}

// later is a rule that is made when it is wanted.
func later(r func() rule) rule {
	return func(s string, at int) ([]int, bool) { return r()(s, at) }
}

// counted is a number without zeros ahead up to most, and what follows it.
func counted(most uint64, then func(n int) rule) rule {
	bound := new(big.Int).SetUint64(most)
	return func(s string, at int) ([]int, bool) {
		var ends []int
		more := at == len(s)
		for to := at + 1; to <= len(s); to++ {
			text := s[at:to]
			n, ok := new(big.Int).SetString(text, 10)
			if !ok || n.Cmp(bound) > 0 || n.String() != text {
				break
			}
			e, m := then(int(n.Uint64()))(s, to)
			ends, more = append(ends, e...), more || m || to == len(s)
		}
		return ends, more
	}
}

func digits(most uint64) rule { return counted(most, func(int) rule { return lit("") }) }

func between(low, high byte) func(byte) bool {
	return func(b byte) bool { return low <= b && b <= high }
}

func key(b byte) bool { return b > 32 && b != 127 }

var end = lit("\r\n")

// bytesOf are n bytes of any kind, and the end behind them.
func bytesOf(n int) rule {
	return func(s string, at int) ([]int, bool) {
		if len(s)-at < n {
			return nil, true
		}
		return end(s, at+n)
	}
}

// text are P13.1's words.
func text() rule {
	inner := between(33, 126)
	return alt(run(1, 1, inner), seq(run(1, 1, inner), run(0, 510, between(32, 126)), run(1, 1, inner)))
}

func refusals() rule {
	return alt(lit("ERROR\r\n"), seq(alt(lit("CLIENT_ERROR "), lit("SERVER_ERROR ")), text(), end))
}

// entries are the replies of values: each key that may come next, at each of its places.
func entries(keys []string, token bool) rule {
	all := []rule{lit("END\r\n")}
	for i, k := range keys {
		if k == "" || len(k) > 250 || strings.ContainsFunc(k, func(r rune) bool { return r <= 32 || r == 127 }) {
			continue
		}
		number := lit("")
		if token {
			number = seq(lit(" "), digits(api.MaxNumber))
		}
		rest := later(func() rule { return entries(keys[i+1:], token) })
		all = append(all, seq(lit("VALUE "+k+" "), digits(1<<32-1), lit(" "), counted(1<<20, func(n int) rule { return seq(number, end, bytesOf(n), rest) })))
	}
	return alt(all...)
}

func statLines() rule {
	return seq(star(seq(lit("STAT "), run(1, 250, between(33, 126)), lit(" "), digits(api.MaxNumber), end)), lit("END\r\n"))
}

// metaLines are the replies of a meta verb's codes.
func metaLines(verb int) rule {
	flags := within(2048, star(seq(lit(" "), run(1, 251, key))))
	var all []rule
	for _, code := range codesOf(verb) {
		switch code {
		case "EN", "MN":
			all = append(all, lit(code+"\r\n"))
		case "VA":
			all = append(all, seq(lit("VA "), counted(1<<20, func(n int) rule { return seq(flags, end, bytesOf(n)) })))
		default:
			all = append(all, seq(lit(code), flags, end))
		}
	}
	return alt(all...)
}

// replies are those of a command, by the chapter's table.
func replies(c api.Command) rule {
	all := []rule{refusals()}
	for _, k := range kindsOf(c) {
		switch k {
		case api.Values:
			all = append(all, entries(c.Keys, c.Verb == api.Gets || c.Verb == api.Gats))
		case api.Number:
			all = append(all, seq(digits(api.MaxNumber), end))
		case api.Told:
			all = append(all, seq(lit("VERSION "), text(), end))
		case api.Stat:
			all = append(all, statLines())
		case api.Meta:
			all = append(all, metaLines(c.Verb))
		case api.Refused, api.Nothing:
		default:
			_, word := some(c, k)
			all = append(all, lit(word))
		}
	}
	return alt(all...)
}

// must is what is to be told of some bytes: how many are the reply, 0 if more is wanted, -1 if they are none.
func (r rule) must(t *testing.T, raw string) int {
	t.Helper()
	ends, more := r(raw, 0)
	slices.Sort(ends)
	switch ends = slices.Compact(ends); {
	case len(ends) > 1:
		t.Fatalf("%q begins with two replies", raw)
	case len(ends) == 1:
		return ends[0]
	case more:
		return 0
	}
	return -1
}

// The plain rules themselves: what the chapter's runs say.
func TestPlain(t *testing.T) {
	for _, x := range []struct {
		c   api.Command
		raw string
		n   int
	}{
		{cmd(api.Get, "a"), "END\r\nx", 5}, {cmd(api.Get, "a"), "EN", 0}, {cmd(api.Get, "a"), "END\n", -1}, {cmd(api.Get, "a"), "VALUE a 0 5\r\nEND\r\n\r\nEND\r\n", 25}, {cmd(api.Get, "a"), "VALUE a 00", -1},
		{cmd(api.Get, "a"), "VALUE a 0 1048576", 0}, {cmd(api.Get, "a"), "VALUE a 0 1048577", -1}, {cmd(api.Get, "a"), "ST", -1}, {cmd(api.Get, "a"), "S", 0},
		{cmd(api.Gets, "a"), "VALUE a 0 1\r", -1}, {cmd(api.Gets, "a"), "VALUE a 0 1 7\r\nx\r\nEND\r\n", 23},
		{cmd(api.Incr, "a"), "12", 0}, {cmd(api.Incr, "a"), "12\r\n", 4}, {cmd(api.Incr, "a"), "18446744073709551616", -1},
		{cmd(api.MetaGet, "a"), "VA 2 W\r\nhi\r\n", 12}, {cmd(api.MetaGet, "a"), "VA 02", -1}, {cmd(api.MetaGet, "a"), "HD  k", -1}, {cmd(api.MetaGet, "a"), wide("HD", 2047) + " ", -1}, {cmd(api.MetaGet, "a"), wide("HD", 2046) + " ", 0},
		{cmd(api.Set, "a"), "SERVER_ERROR " + many(511) + " ", -1}, {cmd(api.Set, "a"), "SERVER_ERROR " + many(512), 0}, {cmd(api.Stats), "STAT a 1\r\nEND\r\n", 15},
	} {
		if n := replies(x.c).must(t, x.raw); n != x.n {
			t.Errorf("verb %d: %.80q is %d, not %d", x.c.Verb, x.raw, n, x.n)
		}
	}
}
