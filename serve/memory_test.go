package serve_test

import (
	"bytes"
	"runtime"
	"slices"
	"testing"

	"granary/api"
)

// R2: what is handed in is not changed, its spare room included, and not kept: all chunks come in one memory, which is wiped between.
func TestHandedIn(t *testing.T) {
	for _, n := range []int{1, 3, 20, 100, len(mixed)} {
		must := sends(t, opened(t, 1), 256, mixed)
		s, got := opened(t, 1), ""
		room := make([]byte, n+8)
		for at := 0; at < len(mixed); at += n {
			for i := range room {
				room[i] = '\n'
			}
			k := copy(room[:n], mixed[at:])
			was := bytes.Clone(room)
			b, _ := s.Do(api.Event{Kind: api.Chunk, Conn: 1, Bytes: room[:k]})
			if !bytes.Equal(room, was) {
				t.Fatalf("pieces of %d: what is handed in is changed: %q, not %q", n, room, was)
			}
			got += string(b)
		}
		if got != must {
			t.Errorf("pieces of %d: %q, not %q", n, got, must)
		}
	}
}

// R2: what is stored is not the chunk's memory.
func TestStoredIsNotTheChunks(t *testing.T) {
	s := opened(t, 1)
	b := spare([]byte("set a 0 0 3\r\nabc\r\nms b 3\r\nabc\r\nget a"))
	s.Do(api.Event{Kind: api.Chunk, Conn: 1, Bytes: b})
	clear(b[:cap(b)])
	told(t, s, 1, " b|", "VALUE a 0 3|abc|VALUE b 0 3|abc|END|")
}

// R2: what is answered is new memory: whoever changes it, and the room behind it, changes nothing else.
func TestAnswersAreTheCallers(t *testing.T) {
	script := []api.Event{opening(), opening(), chunk(1, mixed), chunk(2, "get a b c n|mg a v k|stats|version|"), chunk(1, "gets n|"), chunk(2, "bogus|get a|"), opening(), chunk(1, "quit|")}
	must := answers(opened(t, 0), script)
	s := opened(t, 0)
	for i, e := range script {
		b, _ := s.Do(e)
		if string(b) != must[i].bytes {
			t.Fatalf("event %d is told %q behind the wiping of others, not %q", i, b, must[i].bytes)
		}
		b = b[:cap(b)]
		for i := range b {
			b[i] = '#'
		}
		c := s.Conns()
		c = c[:cap(c)]
		for i := range c {
			c[i] = -1
		}
	}
	conns(t, s, 2, 3)
}

// R2: no two answers of a Run share memory, nor do its lists, and what was answered stays.
func TestRunsAnswersAreApart(t *testing.T) {
	script := []api.Event{opening(), chunk(1, "set a 0 0 3|abc|"), chunk(1, "get a|"), chunk(1, "get a|"), chunk(1, "version|version|"), chunk(9, ""), chunk(1, "stats|"), opening()}
	was := slices.Clone(script)
	s := opened(t, 0)
	must := answers(opened(t, 0), script)
	out, errs := s.Run(script)
	for i := range script {
		b := out[i][:cap(out[i])]
		for k := range b {
			b[k] = '#'
		}
		for k := i + 1; k < len(out); k++ {
			if string(out[k]) != must[k].bytes {
				t.Fatalf("answers %d and %d share memory: %q", i, k, out[k])
			}
		}
		if script[i].Kind != was[i].Kind || script[i].Conn != was[i].Conn || !bytes.Equal(script[i].Bytes, was[i].Bytes) {
			t.Errorf("event %d was changed: %v", i, script[i])
		}
	}
	clear(out)
	clear(errs)
	told(t, s, 1, "get a|", "VALUE a 0 3|abc|END|")
}

// R2: what was answered stays as it is, whatever comes behind it.
func TestAnswersStay(t *testing.T) {
	s := opened(t, 1)
	b, _ := s.Do(chunk(1, "set a 0 0 3|abc|get a|version|"))
	was := string(b)
	c := s.Conns()
	for range 20 {
		s.Do(chunk(1, "set a 0 0 3|xyz|get a a a|bogus|"))
		s.Do(opening())
	}
	if string(b) != was || was != lines("STORED|VALUE a 0 3|abc|END|VERSION granary 1|") || !slices.Equal(c, []int{1}) {
		t.Errorf("an answer did not stay: %q, %v", b, c)
	}
}

// R2: the events' own bytes, in a script, are not changed, with their room behind.
func TestScriptIsNotChanged(t *testing.T) {
	script := []api.Event{opening(), chunk(1, "set a 0 0 3|ab"), chunk(1, "c|get a|bogus|")}
	var whole [][]byte
	for i := range script {
		script[i].Bytes = spare(script[i].Bytes)
		whole = append(whole, bytes.Clone(script[i].Bytes[:cap(script[i].Bytes)]))
	}
	opened(t, 0).Run(script)
	for i, e := range script {
		if !bytes.Equal(e.Bytes[:cap(e.Bytes)], whole[i]) {
			t.Errorf("event %d: %q, not %q", i, e.Bytes[:cap(e.Bytes)], whole[i])
		}
	}
}

// R2: nil and empty lists are one.
func TestNilAndEmpty(t *testing.T) {
	s, twin := opened(t, 1), opened(t, 1)
	does(t, s, api.Event{Kind: api.Chunk, Conn: 1, Bytes: nil}, "")
	does(t, twin, api.Event{Kind: api.Chunk, Conn: 1, Bytes: []byte{}}, "")
	alike(t, "an empty chunk", s, twin, chunk(1, "stats|"))
}

// What is kept is no more than is needed: neither bytes that are passed over, nor connections that are closed.
func TestKeepsLittle(t *testing.T) {
	s := opened(t, 1)
	measure := func() uint64 {
		var m runtime.MemStats
		runtime.GC()
		runtime.ReadMemStats(&m)
		return m.HeapAlloc
	}
	was := measure()
	for n := 2; n < 20000; n++ {
		s.Do(opening())
		s.Do(chunk(n, "set a 0 0 200|"+many(150)))
		if n%2 == 0 {
			s.Do(closing(n))
		} else {
			s.Do(chunk(n, many(50)+"|quit|"))
		}
	}
	long := []byte(many(1 << 16))
	for range 100 {
		s.Do(api.Event{Kind: api.Chunk, Conn: 1, Bytes: long})
	}
	if now := measure(); now > was+1<<20 {
		t.Errorf("%d bytes are kept", now-was)
	}
	conns(t, s, 1)
	told(t, s, 1, "|", tooLong)
}
