package serve_test

import (
	"maps"
	"slices"
	"testing"

	"granary/api"
)

// The ten examples of the document: example 1.
func TestTen(t *testing.T) {
	s := opened(t, 1)
	told(t, s, 1, "set a 5 0 1|x|get a|", "STORED|VALUE a 5 1|x|END|")
	told(t, s, 1, "gets a|", "VALUE a 5 1 1|x|END|")
	told(t, s, 1, "cas a 5 0 1 1|y|", "STORED|", "cas a 5 0 1 1|y|", "EXISTS|")
	told(t, s, 1, "incr n 1|", "NOT_FOUND|", "set n 0 0 2|99|incr n 1|", "STORED|100|")
	told(t, s, 1, "bogus|get a|", "ERROR|VALUE a 5 1|y|END|")
	told(t, s, 1, "set a 0 0 3|abcd|get a|", "CLIENT_ERROR bad data chunk|VALUE a 5 1|y|END|")
	told(t, s, 1, "set b 0 1 1|z|", "STORED|")
	does(t, s, tick(1), "")
	told(t, s, 1, "get b|", "END|")
	told(t, s, 1, "get a", "", "|", "VALUE a 5 1|y|END|")
	told(t, s, 1, "set a 0 0 300|"+many(300)+"|", "SERVER_ERROR object too large for cache|", "get a|", "END|")
	told(t, s, 1, "set c 0 0 1 noreply|q|get c|quit|get c|", "VALUE c 0 1|q|END|")
	conns(t, s)
	refuses(t, s, chunk(1, "get c|"), api.ErrConn)
}

// Examples 2 and 3.
func TestExamples(t *testing.T) {
	s := opened(t, 1)
	does(t, s, chunk(1, ""), "")
	does(t, s, api.Event{Kind: api.Chunk, Conn: 1}, "")
	told(t, s, 1, "get a", "")
	if n := s.Holds(1); n != 5 {
		t.Errorf("Holds(1) is %d", n)
	}
	does(t, s, closing(1), "")
	if n := s.Holds(1); n != 0 {
		t.Errorf("Holds of a connection that was closed is %d", n)
	}
}

// The table 'Runs', its first rows, one behind the other.
func TestRunsOfConnections(t *testing.T) {
	s := opened(t, 0)
	does(t, s, opening(), "\x00\x00\x00\x01")
	does(t, s, opening(), "\x00\x00\x00\x02")
	does(t, s, closing(1), "")
	does(t, s, opening(), "\x00\x00\x00\x03")
	conns(t, s, 2, 3)
	for _, e := range []api.Event{chunk(1, "get a|"), closing(1), closing(0), closing(7)} {
		refuses(t, s, e, api.ErrConn)
	}
	refuses(t, s, api.Event{Kind: 0}, api.ErrArg)
	refuses(t, s, api.Event{Kind: 5}, api.ErrArg)
	told(t, s, 2, "get a|quit|get a|", "END|")
	refuses(t, s, chunk(2, "get a|"), api.ErrConn)
	if n := s.Now(); n != 1 {
		t.Errorf("Now is %d", n)
	}
	refuses(t, s, tick(0), api.ErrArg)
	refuses(t, s, tick(-1), api.ErrArg)
	does(t, s, tick(1<<40-1), "")
	if n := s.Now(); n != 1<<40 {
		t.Errorf("Now is %d", n)
	}
	refuses(t, s, tick(1), api.ErrClock)
	told(t, s, 3, "set a 0 0 5|ab", "")
	if n := s.Holds(3); n != 15 {
		t.Errorf("Holds(3) is %d", n)
	}
	does(t, s, closing(3), "")
	opens(t, s, 4)
	told(t, s, 4, "get a|", "END|")
}

// The table 'Runs', the rows with bytes.
func TestRunsOfBytes(t *testing.T) {
	s := opened(t, 2)
	told(t, s, 1, "set a 0 0 1|", "")
	told(t, s, 2, "set a 0 0", "", " 1|y", "", "|", "STORED|")
	told(t, s, 1, "x|", "STORED|", "get a|", "VALUE a 0 1|x|END|")
	told(t, opened(t, 1), 1, "set a 0 0 1|x|incr a 1|", "STORED|CLIENT_ERROR cannot increment or decrement non-numeric value|")
	told(t, opened(t, 1), 1, "set a 0 0 300|"+many(300)+"|", "SERVER_ERROR object too large for cache|")
	told(t, opened(t, 1), 1, "bogus|set a 0 0 1 noreply|x|mn|", "ERROR|MN|")
}

// The table 'Runs', the rows with stats.
func TestRunsOfStats(t *testing.T) {
	s := opened(t, 1)
	told(t, s, 1, "get a|bogus|", "END|ERROR|")
	got := read(t, s, 1)
	delete(got, "crawled")
	must := sums("cmd_get get_misses total_connections curr_connections bad_lines")
	delete(must, "crawled")
	if !maps.Equal(got, must) {
		t.Errorf("stats tells%s", differ(got, must))
	}
	told(t, s, 1, "stats reset|", "RESET|")
	counts(t, s, "curr_connections")
}

// The table 'Runs', the row of the limit.
func TestRunsOfMany(t *testing.T) {
	s := opened(t, 1024)
	refuses(t, s, opening(), api.ErrMany)
	does(t, s, closing(5), "")
	does(t, s, opening(), "\x00\x00\x04\x01")
}

// The table 'Runs', its last row, and P16.6: a script is done event by event.
func TestRun(t *testing.T) {
	s, twin := opened(t, 0), opened(t, 0)
	for _, none := range [][]api.Event{nil, {}} {
		if out, errs := s.Run(none); len(out) != 0 || len(errs) != 0 {
			t.Errorf("Run of no events: %v, %v", out, errs)
		}
	}
	script := []api.Event{opening(), chunk(1, "version|"), chunk(2, "version|"), tick(2), tick(0), {Kind: 9}, opening(),
		chunk(2, "set a 0 0 1|x|ge"), chunk(1, "get a|"), chunk(2, "t a|quit|"), closing(2), closing(1), tick(1 << 40), chunk(1, "")}
	must := answers(twin, script)
	out, errs := s.Run(script)
	if len(out) != len(script) || len(errs) != len(script) {
		t.Fatalf("Run of %d events: %d answers, %d errors", len(script), len(out), len(errs))
	}
	for i := range script {
		if got := (answer{string(out[i]), errs[i]}); got != must[i] {
			t.Errorf("event %d: %v, not %v", i, got, must[i])
		}
	}
	if !slices.Equal(errs, []api.Errno{0, 0, api.ErrConn, 0, api.ErrArg, api.ErrArg, 0, 0, 0, 0, api.ErrConn, 0, api.ErrClock, api.ErrConn}) {
		t.Errorf("Run's errors: %v", errs)
	}
	if string(out[1]) != lines("VERSION granary 1|") || string(out[9]) != lines("VALUE a 0 1|x|END|") {
		t.Errorf("Run's answers: %q", out)
	}
	alike(t, "Run", s, twin, opening(), chunk(3, "gets a|stats|"))
}

// A script in two halves is the script.
func TestRunGoesOn(t *testing.T) {
	script := []api.Event{opening(), chunk(1, "set a 0 0 2|x"), tick(1), chunk(1, "y|gets a|"), opening(), closing(1), chunk(2, "stats|")}
	for at := range len(script) + 1 {
		s, whole := opened(t, 0), opened(t, 0)
		one, _ := s.Run(script[:at])
		two, _ := s.Run(script[at:])
		must, _ := whole.Run(script)
		for i, b := range slices.Concat(one, two) {
			if string(b) != string(must[i]) {
				t.Errorf("cut at %d: event %d is told %q, not %q", at, i, b, must[i])
			}
		}
	}
}
