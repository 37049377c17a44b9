package line_test

import (
	"math/rand"
	"strconv"
	"strings"
	"testing"

	"granary/api"
	"granary/line"
)

// A source makes rows of bytes and cuts them; each seed makes its own.
type source struct{ *rand.Rand }

func (s source) one(of ...string) string { return of[s.Intn(len(of))] }

// command is a line, mostly right, and mostly with a block where it wants one.
func (s source) command() string {
	n := s.Intn(12)
	text := s.one(
		"get a", "gets a b", "gat 5 a", "delete a", "delete a 0 noreply", "incr n 1", "incr n x", "touch a 5", "touch a x", "flush_all", "flush_all -1", "version", "verbosity 1", "stats reset", "mn", "mg a v", "mg a z", "md a q", "ma n D2",
		"bogus", "", "get", "get \x7f", many(3), "set a 0 0", "quit now",
		"set a 0 0 #", "set a 5 60 # noreply", "add a 0 0 #", "cas a 0 0 # 7", "ms a #", "ms a # k", "append a 0 0 #",
		"set a 0 0 #", "set a x 0 #", "set a 0 x #", "cas a 0 0 # x", "ms a # z", "set a 0 0 # 1", "set \x01 0 0 #",
	)
	if s.Intn(150) == 0 {
		text = "quit"
	}
	hasBlock := strings.Contains(text, "#")
	text = strings.ReplaceAll(text, "#", s.one("", "", "0", "000")+strconv.Itoa(n))
	if s.Intn(15) == 0 {
		text = wide(text, 2046+s.Intn(6))
	}
	text += s.one("\n", "\r\n", "\r\n", "\r\r\n")
	if hasBlock != (s.Intn(20) == 0) {
		text += "\r\nget b\r\n01234"[:n] + s.one("\r\n", "\r\n", "\r\n", "\n", "\rx\n", "xy\r\n", "\r\r\n", "\r")
	}
	return text
}

func (s source) raw() []byte {
	var b strings.Builder
	for range 1 + s.Intn(8) {
		b.WriteString(s.command())
	}
	out := []byte(b.String())
	for range s.Intn(3) {
		out[s.Intn(len(out))] = s.one("\n", "\r", " ", "\x00", "5", "x")[0]
	}
	return out[:len(out)-s.Intn(1+len(out)/4)]
}

// The Feeder and the chapter's words tell the same of any bytes, however they are cut.
func TestModel(t *testing.T) {
	for seed := range int64(20) {
		s := source{rand.New(rand.NewSource(seed))}
		for range 400 {
			raw := s.raw()
			limit := s.Intn(14) - 1
			piece := 1 + s.Intn(1+len(raw))
			f := line.New(limit)
			var told []api.Step
			for at := 0; at < len(raw); {
				to := min(at+s.Intn(piece+1), len(raw))
				told = append(told, f.Feed(raw[at:to])...)
				at = to
				must, now := look(raw[:at], limit)
				if !sameSteps(told, must) || f.Held() != now.held || f.Ended() != now.ended || f.Taken() != at {
					t.Fatalf("limit %d, behind %q: %.500v, held %d, not %.500v, %v", limit, raw[:at], told, f.Held(), must, now)
				}
				if f.Held() > api.MaxLine+3+max(limit, 0) {
					t.Fatalf("limit %d, behind %q: held %d", limit, raw[:at], f.Held())
				}
			}
		}
	}
}

// P12.2: any bytes at all, of those that mean something and some that do not.
func TestAnyBytes(t *testing.T) {
	s := source{rand.New(rand.NewSource(7))}
	for range 1500 {
		var b strings.Builder
		for range s.Intn(12) {
			b.WriteString(s.one("\r", "\n", "\r\n", "\n", " ", "x", "1", "\x00", "\xff", "get a", "set a 0 0 1", "set a 0 0 2", "set a x 0 1", "ms a 1", "quit", "noreply"))
		}
		newRow(b.String(), s.Intn(4)-1).everyCut(t)
	}
}
