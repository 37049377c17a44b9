package line_test

import (
	"strconv"
	"testing"

	"granary/api"
	"granary/line"
)

// P12.4, case 1: a line that is too long, from the byte on that makes it so.
func TestLongLine(t *testing.T) {
	long := client(tooLong, -1)
	f := fed(t, 9, many(2048), 2048)
	feeds(t, f, "x", 0)
	feeds(t, f, "\r", 0)
	feeds(t, f, "\n", 0, fails(long, 0, 2051))
	feeds(t, f, "ge", 2)

	f = fed(t, 9, many(2048)+"\r", 2049)
	feeds(t, f, "\r", 0)
	feeds(t, f, "\n", 0, fails(long, 0, 2051))
	feeds(t, f, "get a|", 0, get("a", 2051, 2058))

	// The 2048th byte may be a 13, and one behind it still be the end's.
	f = fed(t, 9, many(2047)+"\r", 2048)
	feeds(t, f, "\r", 2049)
	feeds(t, f, "\n", 0, fails(noVerb, 0, 2050))
	f = fed(t, 9, many(2047)+"\r", 2048)
	feeds(t, f, "x", 0)
	f = fed(t, 9, many(2047)+"\r", 2048)
	feeds(t, f, "\n", 0, fails(noVerb, 0, 2049))

	// In one chunk, of each length, with each end.
	for _, n := range []int{2047, 2048, 2049, 2050, 2051, 2052, 5000, 1 << 20} {
		for _, end := range []string{"", "\r", "\r\r"} {
			text := many(n) + end
			held := n + len(end)
			if held > 2049 || held == 2049 && end == "" {
				held = 0
			}
			f = fed(t, 9, text, held)
			w := long
			if n+max(len(end)-1, 0) <= 2048 {
				w = noVerb
			}
			feeds(t, f, "\n", 0, fails(w, 0, len(text)+1))
			feeds(t, line.New(9), text+"\nab", 2, fails(w, 0, len(text)+1))
		}
	}
	// Blanks ahead of a right command count too.
	feeds(t, line.New(9), wide("get a", 2048)+"|", 0, get("a", 0, 2050))
	feeds(t, line.New(9), wide("get a", 2049)+"|", 0, fails(long, 0, 2051))
	feeds(t, line.New(9), wide("set a 0 0 1", 2049)+"|x|", 0, fails(long, 0, 2051), fails(noVerb, 2051, 2054))
}

// P12.4, case 2: a wrong line with a block behind it that is passed over; with none, or one above the limit, the step is there.
func TestWrongLine(t *testing.T) {
	for _, limit := range []int{3, 4, greatest} {
		f := fed(t, limit, "set a x 0 3\r", 12)
		feeds(t, f, "\n", 0)
		feeds(t, f, "a", 0)
		feeds(t, f, "\n\n", 0)
		feeds(t, f, "\r", 0)
		feeds(t, f, "\n", 0, fails(client(badLine, 3), 0, 18))
		feeds(t, f, "get a|", 0, get("a", 18, 25))
	}
	for _, limit := range []int{2, 0, -1, least} {
		f := fed(t, limit, "set a x 0 3\r", 12)
		feeds(t, f, "\n", 0, fails(client(badLine, 3), 0, 13))
		feeds(t, f, "abc", 3)
		feeds(t, f, "\r", 4)
		feeds(t, f, "\n", 0, fails(noVerb, 13, 18))
	}
	for _, limit := range []int{least, -1, 0, 1} {
		f := fed(t, limit, "set a 0 x 0", 11)
		feeds(t, f, "\n", 0)
		feeds(t, f, "\r", 0)
		feeds(t, f, "\r", 0)
		feeds(t, f, "x", 0)
		feeds(t, f, "\n", 0, fails(client(badTime, 0), 0, 16))
		f = fed(t, limit, "set a 0 x 0|", 0)
		feeds(t, f, "\n", 0, fails(client(badTime, 0), 0, 14))
	}
	f := line.New(9)
	feeds(t, f, "bogus|\n|get|delete|", 0, fails(noVerb, 0, 7), fails(noVerb, 7, 8), fails(noVerb, 8, 10), fails(client(badLine, -1), 10, 15), fails(client(badLine, -1), 15, 23))
	feeds(t, f, "ms a 3 z|ab", 0)
	feeds(t, f, "c\r", 0)
	feeds(t, f, "\n", 0, fails(client("invalid flag", 3), 23, 38))
	// A wrong line whose N is wrong too has no block.
	feeds(t, f, "set a 0 0 x|get a|", 0, fails(client(badLine, -1), 38, 51), get("a", 51, 58))
	feeds(t, f, "set a 0 0|", 0, fails(client(badLine, -1), 58, 69))
	feeds(t, f, "set a 0 0 1 2|x", 0)
	feeds(t, f, "|", 0, fails(client(badLine, 1), 69, 87))
}

// P12.4, case 3: a block above the limit is passed over, whatever stands at its end.
func TestLargeBlock(t *testing.T) {
	told := large(verb(api.Set, "a"))
	for _, limit := range []int{2, 1, 0, -1, least} {
		for _, end := range []string{"\r\n", "\n", "xy\n", "\rx\n"} {
			f := fed(t, limit, "set a 0 0 3\r", 12)
			feeds(t, f, "\n", 0)
			feeds(t, f, "ab", 0)
			feeds(t, f, "\n", 0)
			feeds(t, f, end[:len(end)-1], 0)
			feeds(t, f, "\n", 0, done(told, 0, 16+len(end)))
			feeds(t, f, "v", 1)
		}
	}
	f := fed(t, 3, "set a 0 0 3\r", 12)
	feeds(t, f, "\n", 13)
	feeds(t, f, "abc", 16)
	feeds(t, f, "|", 0, set("abc", 0, 18))
	// A block of the greatest length, of which little comes.
	f = fed(t, api.MaxBlock-1, "set a 0 0 2147483647|", 0)
	feeds(t, f, many(10000)+"\r\n", 0)
	f = fed(t, api.MaxBlock, "set a 0 0 2147483647|", 22)
	feeds(t, f, many(10000)+"\r\n", 10024)
}

// P12.4, case 4: a block's bytes are kept up to the byte that spoils its end.
func TestBlockEnd(t *testing.T) {
	bad := client(badBlock, -1)
	for _, block := range []string{"", "x", "abc", "\r\n\r\n", "\n", "\r", "get b\r\n"} {
		n := len(block)
		head := "set a 0 0 " + strconv.Itoa(n) + "\r\n"
		held := len(head) + n
		for _, limit := range []int{n, n + 1, greatest} {
			f := fed(t, limit, head+block, held)
			feeds(t, f, "\r", held+1)
			feeds(t, f, "\n", 0, set(block, 0, held+2))
			for _, other := range []string{"x", "\x00", " ", "\xff"} {
				f = fed(t, limit, head+block, held)
				feeds(t, f, other, 0)
				feeds(t, f, "\r", 0)
				feeds(t, f, "\n", 0, fails(bad, 0, held+3))
				f = fed(t, limit, head+block, held)
				feeds(t, f, "\r", held+1)
				feeds(t, f, other, 0)
				feeds(t, f, "\n", 0, fails(bad, 0, held+3))
				feeds(t, f, "get", 3)
			}
			f = fed(t, limit, head+block, held)
			feeds(t, f, "\n", 0, fails(bad, 0, held+1))
			feeds(t, f, "get", 3)
			f = fed(t, limit, head+block, held)
			feeds(t, f, "\r", held+1)
			feeds(t, f, "\r", 0)
			feeds(t, f, "\n", 0, fails(bad, 0, held+3))
		}
	}
}

// blocked are lines of each verb with a block, up to their N, and what stands behind that.
var blocked = [][2]string{
	{"set a 0 0 ", ""}, {"set a 5 -1 ", " noreply"}, {"add a 0 0 ", ""}, {"replace a 0 0 ", ""}, {"append a 0 0 ", ""},
	{"prepend a 0 0 ", " noreply"}, {"cas a 0 0 ", " 7"}, {"cas a 0 0 ", " 7 noreply"}, {"ms a ", ""}, {"ms a ", " k T5 Oxy"},
}

// P12.7: what is held comes up to its bound, and no further.
func TestBound(t *testing.T) {
	for _, limit := range []int{least, -1, 0, 1, 9, 3000} {
		n := max(limit, 0)
		for _, b := range blocked {
			head := wide(b[0]+strconv.Itoa(n)+b[1], api.MaxLine)
			raw := head + "\r\n" + many(n) + "\r"
			for _, last := range []string{"\n", "x", "\r"} {
				f := line.New(limit)
				for i := range len(raw) {
					f.Feed([]byte(raw[i : i+1]))
					if f.Held() != i+1 {
						t.Fatalf("behind %d bytes of %.300q: held %d", i+1, raw, f.Held())
					}
				}
				if f.Held() != api.MaxLine+3+n {
					t.Fatalf("held %d, the bound is %d", f.Held(), api.MaxLine+3+n)
				}
				if f.Feed([]byte(last)); f.Held() != 0 {
					t.Fatalf("held %d", f.Held())
				}
			}
		}
	}
}
