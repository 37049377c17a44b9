package line_test

import (
	"strconv"
	"testing"

	"granary/api"
	"granary/line"
)

// short are rows of bytes with blocks of n bytes: right ones, too large ones, wrong ones, behind right and wrong lines.
func short(n int) []string {
	var out []string
	block := "\r\nget b\r\n0123456789"[:n]
	length := strconv.Itoa(n)
	for _, b := range blocked {
		for _, end := range []string{"\r\n", "\n", "\rx\n", "\r\r\n", "dd\r\n", " \n"} {
			out = append(out, b[0]+length+b[1]+"\r\n"+block+end+"get c\r\n")
		}
		out = append(out, b[0]+"0"+length+b[1]+"\n"+block+"\r\nqui")
	}
	for _, wrong := range []string{"set a x 0 ", "add a 0 x ", "cas a 0 0 ", "ms \x7f ", "prepend a 0 99999999999999999999 "} {
		for _, end := range []string{"\r\n", "\n", "\rx\n", "dd\r\n"} {
			out = append(out, wrong+length+"\r\n"+block+end+"get c\r\nge")
		}
	}
	for _, text := range []string{"", "|", "||\n\n", "get a|get b\nget c|", "get a\r|\rget b|", "bogus|get a|", "get|touch a x|mn|mg a v t|", "delete a 0 noreply|stats|stats reset|stats x|flush_all -1|",
		"quit|get a|set a 0 0 5|", "get a|quit\nquit|", "quit x|get a|", "set a 0 0 4|quit|quit|get a|", "QUIT|quit ", "\x00\xff\x7f|version|verbosity 1 noreply|"} {
		out = append(out, lines(text))
	}
	return out
}

// long are rows with lines of the greatest length, and beyond it.
func long() []string {
	var out []string
	for _, n := range []int{2047, 2048, 2049, 2050, 3000} {
		for _, end := range []string{"\r\n", "\n", "\r\r\n"} {
			out = append(out, wide("get a", n)+end+"get b\r\n", many(n)+end+"x", wide("set a 0 0 3", n)+end+"abc\r\nget c\r\n")
		}
	}
	return append(out, many(2040)+"\rx\r\r\n\r\n", many(2048)+"\rx\nquit\r\nget a\r\n", wide("set a x 0 2", 2048)+"\r\nab\r\nversion\r\n", wide("set a x 0 2", 2049)+"\r\nab\r\nversion\r\n", wide("quit", 2048)+"\r\n"+many(3000))
}

// P12.2 to P12.4, P12.6: every row, with every limit about its blocks' length, in every cut.
func TestCuts(t *testing.T) {
	for _, n := range []int{0, 1, 2, 3, 9, 10} {
		for _, limit := range []int{least, -1, 0, n - 1, n, n + 1, greatest} {
			for _, raw := range short(n) {
				newRow(raw, limit).everyCut(t)
			}
		}
	}
}

// The same of long lines.
func TestCutsOfLongLines(t *testing.T) {
	for _, raw := range long() {
		for _, limit := range []int{2, 3} {
			newRow(raw, limit).everyCut(t)
		}
	}
}

// P12.6: cut in three, at every two places.
func TestCutsInThree(t *testing.T) {
	for _, raw := range short(2) {
		r := newRow(raw, 2)
		for i := range raw {
			for j := i; j < len(raw); j++ {
				r.cut(t, i, j)
			}
		}
	}
}

// P12.3: behind a quit nothing is told and nothing held, and every byte is counted.
func TestQuit(t *testing.T) {
	f := line.New(9)
	feeds(t, f, "get a|qui", 3, get("a", 0, 7))
	feeds(t, f, "t", 4)
	feeds(t, f, "\r", 5)
	feeds(t, f, "\nset a 0 0 5|ab", 0, done(verb(api.Quit), 7, 13))
	for i, chunk := range []string{"", "x", "get a|", "quit|", many(5000), "\n", "set a 0 0 3|"} {
		feeds(t, f, chunk, 0)
		if !f.Ended() {
			t.Error("chunk", i, "undoes the quit")
		}
	}
	if f.Taken() != 28+1+7+6+5000+1+13 {
		t.Error("taken:", f.Taken())
	}
	// A quit in a block, or in a line that is wrong, is none.
	f = line.New(9)
	feeds(t, f, "set a 0 0 6|quit||quit now|", 0, set("quit\r\n", 0, 21), fails(client(badLine, -1), 21, 31))
	feeds(t, f, "set a x 0 4|quit||", 0, fails(client(badLine, 4), 31, 50), fails(noVerb, 50, 52))
	feeds(t, f, "\n quit \n", 0, fails(noVerb, 52, 53), done(verb(api.Quit), 53, 60))
}

// P12.5: what one Feeder is fed says nothing to another.
func TestApart(t *testing.T) {
	rows := append(short(3), long()...)
	for i, a := range rows {
		b := rows[(i*7+3)%len(rows)]
		one, two := newRow(a, 3), newRow(b, 2)
		f, g, h := line.New(3), line.New(2), line.New(3)
		for at := 0; at < max(len(a), len(b)); at += 5 {
			one.next(t, f, at, 5)
			two.next(t, g, at, 5)
			one.next(t, h, at, 5)
		}
	}
}

// next feeds a row's next n bytes, if there are any, and holds what is told against what must be.
func (r row) next(t *testing.T, f *line.Feeder, at, n int) {
	t.Helper()
	at = min(at, len(r.raw))
	to := min(at+n, len(r.raw))
	got := f.Feed(r.raw[at:to])
	s := r.seen[to]
	if !sameSteps(got, r.steps[r.seen[at].steps:s.steps]) || f.Held() != s.held || f.Ended() != s.ended || f.Taken() != to {
		t.Fatalf("limit %d, %.300q: %d to %d tell %.300v, held %d", r.limit, r.raw, at, to, got, f.Held())
	}
}
