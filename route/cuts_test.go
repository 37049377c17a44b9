package route_test

import (
	"testing"

	"granary/api"
)

// A scene is what a connection sends, and what two servers answer then.
type scene struct {
	sent    string
	answers [2]string
}

// scenes are honest ones, cut short ones, and such as end in garbage.
func scenes() []scene {
	const script = "get a b c|set a 0 0 6|get |||set b 0 0 9|123456789|bogus|mg d v k|flush_all|set c 0 0 2 noreply|xy|delete a|qu"
	return []scene{
		{script, [2]string{"VALUE a 0 5|END||END|STORED|OK|DELETED|", "VALUE b 3 0||END|DELETED|VA 2 kd|  |OK|"}},
		{script, [2]string{"VALUE a 0 5|END||END|STORED|OK|DEL", "END|NOT_FOUND|EN|SERVER_ERROR no|"}},
		{script, [2]string{"VALUE a 0 5|END||END|STORED|OK|DELETED|x", "END|bogus|END|OK|"}},
		{"get a|quit|get b|mn|", [2]string{"END|", ""}},
		{"get a|quit|get b|mn|", [2]string{"END|x", "x"}},
		{"set a 0 0 3|abcd|get a|set a 0 x 3|abc|mn|stats", [2]string{"END|", "END|"}},
	}
}

// seen is all that is told, one behind the other: to each server, and to the connection.
type seen struct {
	out  [2]string
	told string
}

// look takes what is told now.
func (s *seen) look(w *world) {
	for _, o := range w.r.Sends() {
		s.out[o.To] += string(o.Bytes)
	}
	for _, o := range w.r.Tells() {
		s.told += string(o.Bytes)
	}
}

// play plays a scene with its bytes cut at some places: those of a connection, and those of each server.
func (x scene) play(t *testing.T, cuts, answers []int) seen {
	t.Helper()
	w := two(t, 8, 0)
	var s seen
	pieces(x.sent, cuts, func(piece []byte) {
		if e := w.r.Feed(1, piece); e != api.OK && e != api.ErrConn {
			t.Fatalf("Feed is %v", e)
		}
		s.look(w)
	})
	for n, text := range x.answers {
		pieces(text, answers, func(piece []byte) {
			w.is("Got", w.r.Got(n, piece), api.OK)
			s.look(w)
		})
	}
	// What is still to be told of what has come, and whether the servers are up.
	for n := range x.answers {
		w.down(n)
		w.up(n)
	}
	s.look(w)
	return s
}

// pieces hands out a text in pieces that end at these places, and at its end.
func pieces(text string, places []int, take func([]byte)) {
	raw := []byte(lines(text))
	from := 0
	for _, to := range places {
		if to = min(to, len(raw)); to >= from {
			take(raw[from:to])
			from = to
		}
	}
	take(raw[from:])
}

// P21.14: at every place, at every two places, at all of them, and with no bytes between.
func TestCuts(t *testing.T) {
	for _, x := range scenes() {
		must := x.play(t, nil, nil)
		var each, twice []int
		for at := range len(lines(x.sent)) + 1 {
			each, twice = append(each, at), append(twice, at, at)
			for to := at; to <= len(lines(x.sent)); to += 1 + to%5 {
				if got := x.play(t, []int{at, to}, nil); got != must {
					t.Fatalf("%q cut at %d and %d: %+v, not %+v", x.sent, at, to, got, must)
				}
				if got := x.play(t, nil, []int{at, to}); got != must {
					t.Fatalf("%q cut at %d and %d: %+v, not %+v", x.answers, at, to, got, must)
				}
			}
		}
		for _, places := range [][]int{each, twice} {
			if got := x.play(t, places, places); got != must {
				t.Fatalf("%q in single bytes: %+v, not %+v", x.sent, got, must)
			}
		}
	}
}
