package serve_test

import (
	"math"
	"slices"
	"strings"
	"testing"

	"granary/api"
)

// P16.2: a number never comes twice, also where the last one is closed; those that are refused take none.
func TestNumbers(t *testing.T) {
	s := opened(t, 3)
	does(t, s, closing(3), "")
	opens(t, s, 4)
	does(t, s, closing(4), "")
	does(t, s, closing(1), "")
	does(t, s, closing(2), "")
	conns(t, s)
	opens(t, s, 5)
	told(t, s, 5, "quit|", "")
	opens(t, s, 6)
	for n := 7; n <= 300; n++ {
		opens(t, s, n)
		does(t, s, closing(n), "")
	}
	conns(t, s, 6)
	opens(t, s, 301)
	conns(t, s, 6, 301)
}

// P16.2: numbers of more than two bytes.
func TestGreatNumbers(t *testing.T) {
	s := opened(t, 0)
	for n := 1; n <= 1<<16+300; n++ {
		opens(t, s, n)
		does(t, s, closing(n), "")
	}
	opens(t, s, 1<<16+301)
	told(t, s, 1<<16+301, "version|", "VERSION granary 1|")
	conns(t, s, 1<<16+301)
}

// P16.2: so many connections are open, and no more; each that is closed, or has quit, leaves its place.
func TestMany(t *testing.T) {
	s := opened(t, api.MaxConns)
	all := s.Conns()
	if len(all) != 1024 || all[0] != 1 || all[1023] != 1024 || !slices.IsSorted(all) {
		t.Errorf("Conns: %d", all)
	}
	for range 3 {
		refuses(t, s, opening(), api.ErrMany)
	}
	if len(s.Conns()) != 1024 {
		t.Errorf("%d are open behind a refusal", len(s.Conns()))
	}
	counts(t, s, "total_connections 1024 curr_connections 1024")
	told(t, s, 77, "quit|", "")
	opens(t, s, 1025)
	refuses(t, s, opening(), api.ErrMany)
	does(t, s, closing(1024), "")
	does(t, s, closing(2), "")
	opens(t, s, 1026)
	opens(t, s, 1027)
	refuses(t, s, opening(), api.ErrMany)
	counts(t, s, "total_connections 1027 curr_connections 1024")
	for _, n := range []int{1, 3, 1023, 1025, 1026, 1027} {
		told(t, s, n, "get a|", "END|")
	}
	for _, n := range []int{2, 77, 1024, 1028} {
		refuses(t, s, chunk(n, "get a|"), api.ErrConn)
	}
}

// P16.2: connections that are none.
func TestNoConnection(t *testing.T) {
	s := opened(t, 3)
	told(t, s, 3, "get a", "")
	does(t, s, closing(2), "")
	for _, n := range []int{2, 0, -1, 4, 256 + 1, 1<<32 + 1, math.MinInt, math.MaxInt} {
		refuses(t, s, chunk(n, "set z 0 0 1|x|"), api.ErrConn)
		refuses(t, s, chunk(n, ""), api.ErrConn)
		refuses(t, s, closing(n), api.ErrConn)
		if held := s.Holds(n); held != 0 {
			t.Errorf("Holds(%d) is %d", n, held)
		}
	}
	conns(t, s, 1, 3)
	told(t, s, 1, "get z|", "END|")
	told(t, s, 3, "|", "END|")
	counts(t, s, "cmd_get 2 get_misses 2 total_connections 3 curr_connections 2")
}

// P16.2: kinds that are none, whatever the other fields say.
func TestNoKind(t *testing.T) {
	s, twin := opened(t, 1), opened(t, 1)
	for _, k := range []int{0, 5, -1, 6, 255, 256 + api.Chunk, 1<<32 + api.Open, math.MinInt, math.MaxInt} {
		refuses(t, s, api.Event{Kind: k}, api.ErrArg)
		refuses(t, s, api.Event{Kind: k, Conn: 1, N: 1, Bytes: []byte("set a 0 0 1\r\nx\r\n")}, api.ErrArg)
		refuses(t, s, api.Event{Kind: k, Conn: 9, N: -1}, api.ErrArg)
	}
	alike(t, "kinds that are none", s, twin, chunk(1, "get a|stats|"), opening())
}

// A kind looks at its own fields alone.
func TestOtherFields(t *testing.T) {
	s, twin := opened(t, 2), opened(t, 2)
	junk := []byte("quit\r\n")
	script := []api.Event{
		{Kind: api.Open, Conn: 1, N: -5, Bytes: junk},
		{Kind: api.Open, Conn: -1, N: 1 << 50},
		{Kind: api.Close, Conn: 2, N: -5, Bytes: junk},
		{Kind: api.Chunk, Conn: 1, N: -5, Bytes: []byte("get a\r\n")},
		{Kind: api.Chunk, Conn: 3, N: 1 << 60, Bytes: []byte("set a 0 0 1\r\nx\r\n")},
		{Kind: api.Tick, Conn: 99, N: 2, Bytes: junk},
		{Kind: api.Tick, Conn: 1, N: 1, Bytes: junk},
	}
	for i, e := range script {
		clean := api.Event{Kind: e.Kind}
		switch e.Kind {
		case api.Close:
			clean.Conn = e.Conn
		case api.Chunk:
			clean.Conn, clean.Bytes = e.Conn, e.Bytes
		case api.Tick:
			clean.N = e.N
		}
		b, no := s.Do(e)
		must, _ := twin.Do(clean)
		if no != api.OK || string(b) != string(must) {
			t.Errorf("event %d: %q, %v, not %q", i, b, no, must)
		}
		alike(t, "other fields", s, twin)
	}
	alike(t, "other fields", s, twin, chunk(1, "gets a|stats|"))
}

// P16.2: what a connection held is forgotten with it, and the next one begins with nothing.
func TestForgotten(t *testing.T) {
	for _, begun := range []string{"set a 0 0 5|ab", "set a 0 0 5|abcde", "set a 0 0 5|abcde\r", "get a b c", "set a 0 0 5", "set a x 0 5|ab", many(5000), "set a 0 0 9999|ab", "set a 0 0 1|xy"} {
		s := opened(t, 2)
		told(t, s, 2, "set a 7 0 1|o|", "STORED|")
		told(t, s, 1, begun, "")
		does(t, s, closing(1), "")
		opens(t, s, 3)
		if s.Holds(3) != 0 || s.Holds(1) != 0 {
			t.Errorf("%.40q: Holds %d, %d", begun, s.Holds(3), s.Holds(1))
		}
		told(t, s, 3, "get a|", "VALUE a 7 1|o|END|", "|", "ERROR|")
		told(t, s, 2, "cde|", "ERROR|", "gets a|", "VALUE a 7 1 1|o|END|")
	}
}

// P16.5: Holds behind each event, of each connection for itself.
func TestHolds(t *testing.T) {
	s := opened(t, 3)
	holds := func(must ...int) {
		t.Helper()
		if got := []int{s.Holds(1), s.Holds(2), s.Holds(3)}; !slices.Equal(got, must) {
			t.Errorf("Holds: %v, not %v", got, must)
		}
	}
	holds(0, 0, 0)
	told(t, s, 1, "get a", "")
	holds(5, 0, 0)
	told(t, s, 2, "set a 0 0 3|ab", "")
	holds(5, 15, 0)
	told(t, s, 3, "get a|get", "END|")
	holds(5, 15, 3)
	told(t, s, 2, "", "")
	holds(5, 15, 3)
	does(t, s, tick(1), "")
	holds(5, 15, 3)
	told(t, s, 2, "c\r", "")
	holds(5, 17, 3)
	told(t, s, 2, "\n", "STORED|")
	holds(5, 0, 3)
	told(t, s, 1, many(2100), "")
	holds(0, 0, 3)
	told(t, s, 3, "s|quit|xxxx", badLine)
	holds(0, 0, 0)
	told(t, s, 2, "set a 0 0 257|ab", "")
	holds(0, 0, 0)
}

// P16.2: a connection's Feeder has the item limit of the Config as its limit, and W5: it holds no more than that.
func TestLimit(t *testing.T) {
	for _, limit := range []int{64, 100, 256, 4096} {
		c := small()
		c.ItemLimit, c.Factor = limit, 400
		s := paced(t, c, usual(), 1)
		line := "set a 0 0 " + strings.Repeat("0", 1900)
		told(t, s, 1, line+digits(limit)+"|"+many(limit)+"\r", "")
		if held := s.Holds(1); held != len(line)+len(digits(limit))+2+limit+1 {
			t.Errorf("limit %d: Holds is %d", limit, held)
		}
		told(t, s, 1, "x|", badBlock) // of a block that is not Large
		told(t, s, 1, line+digits(limit+1)+"|"+many(limit+1)+"\r", "")
		if held := s.Holds(1); held != 0 {
			t.Errorf("limit %d: Holds is %d of a block that is Large", limit, held)
		}
		told(t, s, 1, "x|", tooLarge)
		told(t, s, 1, "set a x 0 "+digits(limit)+"|"+many(limit), "", "|", badLine)
		told(t, s, 1, "set a x 0 "+digits(limit+1)+"|", badLine)
		// The greatest that may be held: a line of 2048 bytes with its end, a block and a 13.
		line = "set a 0 0 " + strings.Repeat("0", 2048-10-len(digits(limit))) + digits(limit)
		told(t, s, 1, line+"|"+many(limit)+"\r", "")
		if held := s.Holds(1); held != 2048+limit+3 {
			t.Errorf("limit %d: Holds is %d", limit, held)
		}
		told(t, s, 1, "\n", tooLarge)
	}
}

// P16.2: a quit in the midst of a chunk, and chunks behind it.
func TestQuit(t *testing.T) {
	for _, end := range []string{"", "get a|", "quit|", "set a 0 0 9|x", "bogus|", many(3000)} {
		s := opened(t, 2)
		told(t, s, 1, "set a 0 0 1|x|quit|"+end, "STORED|")
		conns(t, s, 2)
		refuses(t, s, chunk(1, "get a|"), api.ErrConn)
		refuses(t, s, chunk(1, ""), api.ErrConn)
		refuses(t, s, closing(1), api.ErrConn)
		told(t, s, 2, "gets a|", "VALUE a 0 1 1|x|END|")
		opens(t, s, 3)
		conns(t, s, 2, 3)
	}
	s := opened(t, 1)
	told(t, s, 1, "QUIT|quit now|", "ERROR|"+badLine, "qu", "", "it", "", "\n", "")
	conns(t, s)
}

// P16.2: the clock, at its bounds.
func TestClock(t *testing.T) {
	s := opened(t, 1)
	for _, n := range []int{0, -1, math.MinInt} {
		refuses(t, s, tick(n), api.ErrArg)
	}
	for _, n := range []int{1 << 40, 1<<40 + 1, math.MaxInt} {
		refuses(t, s, tick(n), api.ErrClock)
	}
	if s.Now() != 1 {
		t.Errorf("Now is %d behind refusals", s.Now())
	}
	does(t, s, tick(4), "")
	does(t, s, tick(1), "")
	if s.Now() != 6 {
		t.Errorf("Now is %d", s.Now())
	}
	refuses(t, s, tick(1<<40-5), api.ErrClock)
	does(t, s, tick(1<<40-6), "")
	refuses(t, s, tick(math.MaxInt), api.ErrClock)
	refuses(t, s, tick(0), api.ErrArg)
	if s.Now() != 1<<40 {
		t.Errorf("Now is %d at the clock's end", s.Now())
	}
	told(t, s, 1, "set a 0 0 1|x|get a|", "STORED|VALUE a 0 1|x|END|")
}

// What is live goes by the ticks, on all connections.
func TestTicks(t *testing.T) {
	s := opened(t, 2)
	told(t, s, 1, "set a 0 2 1|x|set b 0 -1 1|y|set c 0 0 1|z|get b|", "STORED|STORED|STORED|END|")
	does(t, s, tick(1), "")
	told(t, s, 2, "get a b c|", "VALUE a 0 1|x|VALUE c 0 1|z|END|")
	does(t, s, tick(1), "")
	told(t, s, 2, "get a b c|", "VALUE c 0 1|z|END|")
	told(t, s, 1, "flush_all 2|set d 0 0 1|w|", "OK|STORED|")
	does(t, s, tick(1), "")
	told(t, s, 2, "get c d|", "VALUE c 0 1|z|VALUE d 0 1|w|END|")
	does(t, s, tick(1), "")
	told(t, s, 2, "get c d|set c 0 0 1|v|get c|", "END|STORED|VALUE c 0 1|v|END|")
	told(t, s, 1, "flush_all|get c|set c 0 0 1|u|get c|", "OK|END|STORED|VALUE c 0 1|u|END|")
	told(t, s, 1, "touch c 1|", "TOUCHED|")
	does(t, s, tick(9), "")
	told(t, s, 1, "gat 0 c|touch c 1|", "END|NOT_FOUND|")
}

// R3: an event that is refused has changed nothing, of a server in the midst of its work.
func TestRefusalsChangeNothing(t *testing.T) {
	begin := []api.Event{opening(), opening(), opening(), chunk(1, "set a 0 0 1|x|set b 0 5 1|y|get a|bogus|"), closing(2), tick(3), chunk(3, "set a 0 0 3|ab")}
	bad := []struct {
		e    api.Event
		must api.Errno
	}{
		{api.Event{}, api.ErrArg},
		{api.Event{Kind: 5, Conn: 1, Bytes: []byte("get a\r\n")}, api.ErrArg},
		{closing(2), api.ErrConn},
		{closing(9), api.ErrConn},
		{chunk(2, "get a|"), api.ErrConn},
		{chunk(0, "set b 0 0 1|z|"), api.ErrConn},
		{tick(0), api.ErrArg},
		{tick(-3), api.ErrArg},
		{tick(1 << 40), api.ErrClock},
	}
	behind := []api.Event{chunk(3, "c|"), chunk(1, "gets a b|stats|"), opening(), tick(2), chunk(4, "get b|stats|")}
	for _, x := range bad {
		s, twin := opened(t, 0), opened(t, 0)
		s.Run(begin)
		twin.Run(begin)
		refuses(t, s, x.e, x.must)
		refuses(t, s, x.e, x.must)
		alike(t, "a refusal", s, twin, behind...)
	}
	s, twin := opened(t, api.MaxConns), opened(t, api.MaxConns)
	refuses(t, s, opening(), api.ErrMany)
	alike(t, "an Open too many", s, twin, chunk(1, "stats|"), closing(9), opening(), chunk(1025, "stats|"))
}
