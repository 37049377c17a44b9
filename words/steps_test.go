package words_test

import (
	"strconv"
	"testing"

	"granary/api"
	"granary/words"
)

// blocked are the verbs with a block: a line up to its N, what stands behind that, and the command.
func blocked() []struct {
	ahead, behind string
	told          api.Command
} {
	return []struct {
		ahead, behind string
		told          api.Command
	}{
		{"set a 0 0 ", "", verb(api.Set, "a")},
		{"add a 1 0 ", " noreply", quiet(flags(verb(api.Add, "a"), 1))},
		{"replace a 0 2 ", "", timed(verb(api.Replace, "a"), 2)},
		{"append a 0 0 ", "", verb(api.Append, "a")},
		{"prepend a 0 0 ", "", verb(api.Prepend, "a")},
		{"cas a 0 0 ", " 7", token(verb(api.Cas, "a"), 7)},
		{"ms a ", " k", meta(verb(api.MetaSet, "a"), "k")},
	}
}

// P11.5: each block's end, with limits below N, at it and above it.
func TestBlocks(t *testing.T) {
	get := done(verb(api.Get, "b"), 0)
	for _, x := range blocked() {
		for _, lineEnd := range []string{"\r\n", "\n"} {
			for _, block := range []string{"", "x", "abc", "\r\n\r", "get b\r\n", "\n\n\n", "\x00\xff\r\r"} {
				n := len(block)
				line := x.ahead + strconv.Itoa(n) + x.behind + lineEnd
				for _, tail := range []string{"\r\n", "\n", "\rx\n", "\r\r\n", "d\r\n", "dd\n", " \r\n"} {
					raw := line + block + tail
					for _, limit := range []int{n - 1, n, n + 1, greatest, -1, 0, least} {
						step := fails(client(badBlock, -1), len(raw))
						switch {
						case n > max(limit, 0):
							step = done(large(x.told), len(raw))
						case tail == "\r\n":
							step = done(data(x.told, block), len(raw))
						}
						get.To = len(raw) + 7
						tells(t, raw+"get b\r\n", limit, 0, step, get)
						tells(t, raw, limit, 0, step)
						tells(t, raw[:len(raw)-1], limit, len(raw)-1)
						tells(t, line+block, limit, len(line+block))
						tells(t, line, limit, len(line))
					}
				}
			}
		}
	}
}

// P11.5: the block of a wrong line is passed over, if its Pass is not above limit.
func TestPassedOver(t *testing.T) {
	for _, x := range []struct{ ahead, behind, text string }{
		{"set a x 0 ", "", badLine},
		{"add a 0 x ", " noreply", badTime},
		{"replace \x7f 0 0 ", "", badLine},
		{"append a 0 0 ", " 5", badLine},
		{"prepend a x x ", " 5 noreply", badLine},
		{"cas a 0 0 ", "", badLine},
		{"cas a 0 0 ", " x", badLine},
		{"ms a ", " z", noFlag},
		{"ms a ", " k k", twice},
		{"ms a ", " O", badOpaque},
		{"ms a ", " kx", badToken},
	} {
		for _, block := range []string{"", "x", "\n\n\n", "quit\r\n", "abc"} {
			n := len(block)
			line := x.ahead + strconv.Itoa(n) + x.behind + "\r\n"
			for _, tail := range []string{"\r\n", "\n", "\rx\n", "\r\r\n", "d\r\n"} {
				raw := line + block + tail
				step := fails(client(x.text, n), len(raw))
				for _, limit := range []int{n, n + 1, greatest} {
					tells(t, raw+"mn\n", limit, 0, step, done(verb(api.MetaNoop), len(raw)+3))
					tells(t, raw[:len(raw)-1], limit, len(raw)-1)
					tells(t, line, limit, len(line))
				}
			}
			step := fails(client(x.text, n), len(line))
			for _, limit := range []int{n - 1, -1, least} {
				if max(limit, 0) < n {
					tells(t, line, limit, 0, step)
					tells(t, line+"mn\n", limit, 0, step, done(verb(api.MetaNoop), len(line)+3))
				}
			}
		}
	}
}

// A limit below 0 counts as 0: blocks of no bytes are taken, and passed over.
func TestLimitBelowZero(t *testing.T) {
	for _, limit := range []int{0, -1, -5, least} {
		all(t, "set a 0 0 0\r\n\r\n", limit, done(verb(api.Set, "a"), 0))
		all(t, "set a 0 0 1\r\nx\r\n", limit, done(large(verb(api.Set, "a")), 0))
		all(t, "set a x 0 0\r\n\r\n", limit, fails(client(badLine, 0), 0))
		tells(t, "set a x 0 0\r\n", limit, 13)
		tells(t, "set a x 0 1\r\nx\r\n", limit, 0, fails(client(badLine, 1), 13), fails(noVerb, 16))
		all(t, "set a 0 0 0\r\nx\r\n", limit, fails(client(badBlock, -1), 0))
	}
}

// A wrong line without a Pass has no block: the next line is one of its own.
func TestNoPass(t *testing.T) {
	for _, line := range []string{"set a 0 0 -1\r\n", "set a 0 0\r\n", "set\n", "ms a\n", "ms a x\r\n", "set a 0 0 2147483648\r\n", "touch a\n"} {
		to := len(line)
		tells(t, line+"mn\n", greatest, 0, fails(client(badLine, -1), to), done(verb(api.MetaNoop), to+3))
	}
	// Nor has any other verb one, whatever stands in the fourth place.
	tells(t, "get a b c 3\r\nmn\r\n", 9, 0, done(verb(api.Get, "a", "b", "c", "3"), 13), done(verb(api.MetaNoop), 17))
	tells(t, "gat x b c 3\r\nmn\r\n", 9, 0, fails(client(badTime, -1), 13), done(verb(api.MetaNoop), 17))
}

// A block that is far from whole.
func TestFarBlock(t *testing.T) {
	for _, limit := range []int{9, 1 << 31, greatest} {
		tells(t, "set a 0 0 2147483647\r\nabc\r\n", limit, 27)
	}
	tells(t, "set a x 0 2147483647\r\nabc\r\n", greatest, 27)
	tells(t, "set a x 0 2147483647\r\nabc\r\n", 1<<31-1, 27)
	tells(t, "set a x 0 2147483647\r\nmn\r\n", 1<<31-2, 0, fails(client(badLine, 1<<31-1), 22), done(verb(api.MetaNoop), 26))
}

// P11.5: a line ends with 10; one 13 right ahead of it belongs to the end.
func TestLineEnds(t *testing.T) {
	tells(t, "get a\nget b\r\nget c\n", 9, 0, done(verb(api.Get, "a"), 6), done(verb(api.Get, "b"), 13), done(verb(api.Get, "c"), 19))
	all(t, "get a\r\r\n", 9, fails(client(badLine, -1), 0))
	all(t, "get a \r\n", 9, done(verb(api.Get, "a"), 0))
	all(t, "get a \r \n", 9, fails(client(badLine, -1), 0))
	tells(t, "\n\r\n\r\r\n", 9, 0, fails(noVerb, 1), fails(noVerb, 3), fails(noVerb, 6))
	tells(t, "get a\rget b\n", 9, 0, fails(client(badLine, -1), 12))
	tells(t, "", 9, 0)
	tells(t, "\r", 9, 1)
	if l, left := words.All(nil, 9); len(l) != 0 || left != 0 {
		t.Error("nil has steps")
	}
	if c, n, w := words.Line(nil); c.Verb != 0 || n != -1 || w != noVerb {
		t.Error("nil is a line:", c, n, w)
	}
}

// P11.6: behind a quit there is no other step, and all bytes belong to nobody.
func TestQuit(t *testing.T) {
	quit := verb(api.Quit)
	for _, behind := range []string{"", "get a\r\n", "get a", "\r\n", "\n", "quit\r\n", "set a 0 0 9\r\n", "bogus\r\n", many(5000)} {
		tells(t, "quit\r\n"+behind, 9, 0, done(quit, 6))
		tells(t, " quit \n"+behind, 9, 0, done(quit, 7))
		tells(t, "mn\nquit\n"+behind, 9, 0, done(verb(api.MetaNoop), 3), done(quit, 8))
	}
	// What is no quit ends nothing.
	mn := verb(api.MetaNoop)
	tells(t, "quit x\nmn\n", 9, 0, fails(client(badLine, -1), 7), done(mn, 10))
	tells(t, "quit noreply\nmn\n", 9, 0, fails(client(badLine, -1), 13), done(mn, 16))
	tells(t, "QUIT\nmn\n", 9, 0, fails(noVerb, 5), done(mn, 8))
	tells(t, "get quit\nmn\n", 9, 0, done(verb(api.Get, "quit"), 9), done(mn, 12))
	tells(t, "set a 0 0 4\nquit\r\nmn\n", 9, 0, done(data(verb(api.Set, "a"), "quit"), 18), done(mn, 21))
	tells(t, "quit", 9, 4)
	tells(t, "quit\r", 9, 5)
}

// rowsOfBytes are some that hold steps of every kind.
func rowsOfBytes() []string {
	return []string{
		"get a\r\nset a 0 0 3\r\nabc\r\nset a 0 0 3\r\nabcd\r\nset a x 0 2\nhi\r\nbogus\nmn\n",
		"set a 0 0 12\r\n0123456789ab\r\nset a x 0 12\r\nmn\r\nms k 2 T5\nhi\nversion\r\nget",
		"set a 0 0 0\r\n\r\nset a 0 0 0\r\n\nset a 0 0 0\r\n\rx\r\nflush_all\n\n\r\nget \xff\n",
		"get a\nquit\r\nget b\r\nset a 0 0 1\r\n",
		"quit\n" + many(30),
		many(2050) + "\nget a\r\n" + many(2049) + "\r",
		"set a 0 0 5\r\n\r\n\r\n\n\r\nmg a v v\r\nmd a q\n",
	}
}

// P11.10: the steps of a beginning are those that end in it; P11.7: how many bytes are left.
func TestBeginnings(t *testing.T) {
	for _, raw := range rowsOfBytes() {
		for _, limit := range []int{9, 0, 2, 100} {
			whole, _ := words.All([]byte(raw), limit)
			for n := range len(raw) + 1 {
				var must []api.Step
				left := n
				for _, s := range whole {
					if s.To <= n {
						must, left = append(must, s), n-s.To
						if s.Command.Verb == api.Quit {
							left = 0
						}
					}
				}
				got, rest := words.All([]byte(raw[:n]), limit)
				if !sameSteps(got, must) || rest != left {
					t.Fatalf("All(%.80q, %d) is %v and %d, not %v and %d", raw[:n], limit, got, rest, must, left)
				}
			}
		}
	}
}

// P11.10: if a leaves nothing and has no quit, a and b one behind the other tell a's steps and then b's.
func TestJoined(t *testing.T) {
	parts := append(rowsOfBytes(), "", "get a\r\n", "set a 0 0 1\r\nx\r\n", "x")
	for _, limit := range []int{9, 0, 100} {
		for _, a := range parts {
			first, left := words.All([]byte(a), limit)
			if left != 0 || len(first) > 0 && first[len(first)-1].Command.Verb == api.Quit {
				continue
			}
			for _, b := range parts {
				must := append([]api.Step{}, first...)
				second, rest := words.All([]byte(b), limit)
				for _, s := range second {
					s.From, s.To = s.From+len(a), s.To+len(a)
					must = append(must, s)
				}
				got, is := words.All([]byte(a+b), limit)
				if !sameSteps(got, must) || is != rest {
					t.Errorf("All(%.80q, %d) is %v and %d, not %v and %d", a+b, limit, got, is, must, rest)
				}
			}
		}
	}
}
