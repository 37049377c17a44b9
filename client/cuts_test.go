package client_test

import (
	"math/rand"
	"testing"

	"granary/api"
	"granary/client"
)

// A stream is a row of commands, and what comes back.
type stream struct {
	row []api.Command
	raw string
}

// streams are honest ones, cut short ones, and such as are none.
func streams() []stream {
	two := []api.Command{get("a", "b"), set("a")}
	meta := []api.Command{flagged(cmd(api.MetaGet, "a"), "v"), cmd(api.MetaNoop), what("")}
	var l []stream
	for _, raw := range []string{"", "END|", "END|STORED|", "VALUE a 0 5|END||VALUE b 3 0||END|NOT_STORED|", "SERVER_ERROR x|ERROR|", "VALUE a 0 5|END||EN", "END|STORED|x", "END|STORED|END|", "bogus", "END|bogus|", "VALUE b 0 1|x|VALUE a 0 1|x|END|", "VALUE a 0 1|xy|END|STORED|", "END|STORED||"} {
		l = append(l, stream{two, lines(raw)})
	}
	for _, raw := range []string{"VA 4 W|MN|||MN|STAT a 1|END|", "EN|MN|STAT a 1|STAT", "EN|MN|END|END|", "HD|MN x|END|", "VA 2|xyz|MN|"} {
		l = append(l, stream{meta, lines(raw)})
	}
	return append(l, stream{nil, ""}, stream{nil, "x"}, stream{nil, "END\r\n"})
}

// seen is all that can be told of a client behind a stream's bytes: the ends, what flies, what is live, and what comes of it at last.
type seen struct {
	ends   []api.Done
	flying int
	live   bool
	after  []api.Done
	again  string
}

// cut hands a stream's bytes in, in chunks that end at these places and at its end.
func (s stream) cut(t *testing.T, places ...int) seen {
	t.Helper()
	c := client.New(5)
	for i, m := range s.row {
		sent(t, c, m)
		if i == 0 {
			c.Tick(3)
		}
	}
	var got seen
	at := 0
	for _, to := range append(places, len(s.raw)) {
		got.ends = append(got.ends, c.Take([]byte(s.raw[at:to]))...)
		at = to
	}
	got.flying, got.live = c.Flying(), c.Live()
	got.after = append(c.Tick(2), c.Close()...)
	b, _ := c.Reopen()
	got.again = string(b)
	return got
}

// like: are two of them the same?
func (a seen) like(b seen) bool {
	return same(a.ends, b.ends) && a.flying == b.flying && a.live == b.live && same(a.after, b.after) && a.again == b.again
}

// P20.11: at every place, at every two places, at all of them, and with no bytes between.
func TestCuts(t *testing.T) {
	for _, s := range streams() {
		must := s.cut(t)
		var each, twice []int
		for at := range len(s.raw) + 1 {
			each, twice = append(each, at), append(twice, at, at)
			for to := at; to <= len(s.raw); to++ {
				if got := s.cut(t, at, to); !got.like(must) {
					t.Fatalf("%q cut at %d and %d: %+v, not %+v", s.raw, at, to, got, must)
				}
			}
		}
		if got := s.cut(t, each...); !got.like(must) {
			t.Fatalf("%q in single bytes: %+v, not %+v", s.raw, got, must)
		}
		if got := s.cut(t, twice...); !got.like(must) {
			t.Fatalf("%q in single bytes and no bytes: %+v, not %+v", s.raw, got, must)
		}
	}
}

// P20.10: behind each beginning of an honest stream just the commands whose replies are whole have ended.
func TestBeginnings(t *testing.T) {
	r := rand.New(rand.NewSource(20))
	for range 30 {
		var row []api.Command
		var raw string
		var must []api.Done
		var till []int // where each reply ends
		for i := range 1 + r.Intn(6) {
			s := samples()[r.Intn(len(samples()))]
			a := s.answers[r.Intn(len(s.answers))]
			row, raw, must = append(row, s.m), raw+bytesOf(t, s.m, a), append(must, ok(i+1, a))
			till = append(till, len(raw))
		}
		for at := range len(raw) + 1 {
			got := stream{row, raw[:at]}.cut(t)
			whole := 0
			for _, end := range till {
				if end <= at {
					whole++
				}
			}
			if !same(got.ends, must[:whole]) || got.flying != len(row)-whole || !got.live {
				t.Fatalf("%d bytes of %q: %+v", at, raw, got)
			}
		}
		if got := (stream{row, raw + "x"}).cut(t); !same(got.ends, must) || got.flying != 0 || got.live {
			t.Fatalf("%q and a byte: %+v", raw, got)
		}
	}
}
