package client_test

import (
	"fmt"
	"math/rand"
	"testing"

	"granary/api"
	"granary/client"
	"granary/reply"
	"granary/serve"
	"granary/words"
)

// far is a server with one connection, and the bytes that are on their way from it.
type far struct {
	t    *testing.T
	s    *serve.Server
	conn int
	back []byte
}

func newFar(t *testing.T) *far {
	t.Helper()
	s, e := serve.New(api.Config{PageSize: 4096, Pages: 4, Factor: 200, MinChunk: 64, ItemLimit: 256, Hot: 30, Warm: 30})
	if e != api.OK {
		t.Fatal(e)
	}
	f := &far{t: t, s: s}
	f.open()
	return f
}

func (f *far) open() {
	f.t.Helper()
	b, e := f.s.Do(api.Event{Kind: api.Open})
	if e != api.OK || len(b) != 4 {
		f.t.Fatalf("Open: %v, %v", b, e)
	}
	f.conn, f.back = int(b[2])<<8|int(b[3]), nil
}

// close: what is on its way is lost.
func (f *far) close() {
	f.s.Do(api.Event{Kind: api.Close, Conn: f.conn})
	f.back = nil
}

// hears hands the server some bytes, and tells what it tells of them.
func (f *far) hears(b []byte) []byte {
	f.t.Helper()
	told, e := f.s.Do(api.Event{Kind: api.Chunk, Conn: f.conn, Bytes: b})
	if e != api.OK {
		f.t.Fatalf("Chunk: %v", e)
	}
	f.back = append(f.back, told...)
	return told
}

// anything is a command that a server does.
func anything(r *rand.Rand) api.Command {
	key := fmt.Sprintf("k%d", r.Intn(6))
	m := cmd(1+r.Intn(verbs), key)
	switch m.Verb {
	case api.Get, api.Gets, api.Gat, api.Gats:
		m.Keys = append(m.Keys, "k0", key)
	case api.Set, api.Add, api.Replace, api.Append, api.Prepend, api.Cas, api.MetaSet:
		m.Data = []byte([]string{"", "7", "END\r\n", "STORED\r\n", "\x00\r\n\r\n"}[r.Intn(5)])
	case api.FlushAll, api.Version, api.Verbosity, api.Stats, api.MetaNoop:
		m.Keys = nil
	case api.Quit:
		return get(key)
	}
	switch m.Verb {
	case api.Cas:
		m.Token = uint64(r.Intn(30))
	case api.Incr, api.Decr:
		m.Delta = uint64(r.Intn(5))
	case api.Stats:
		m.What = []string{"", "reset"}[r.Intn(2)]
	case api.MetaGet, api.MetaArith:
		m = flagged(m, []string{"", "v", "kv", "c"}[r.Intn(4)])
	}
	if r.Intn(5) == 0 {
		if _, e := words.Bytes(quiet(m)); e == api.OK {
			return quiet(m)
		}
	}
	return m
}

// said is what a server's bytes say of a command.
func said(t *testing.T, m api.Command, b []byte) api.Answer {
	t.Helper()
	a, n, e := reply.Read(m, b)
	if e != api.OK || n != len(b) || n == 0 {
		t.Fatalf("verb %d is told %q: %v", m.Verb, b, e)
	}
	return a
}

// W14: over a server each command ends with what the server said of it, however the bytes are cut, and whatever times out or is closed meanwhile.
func TestServer(t *testing.T) {
	for seed := range 200 {
		r := rand.New(rand.NewSource(int64(seed)))
		c, f := client.New(12), newFar(t)
		wishes, told := map[int]api.Answer{}, map[int]int{}
		var row []api.Command // what was sent and is kept, by its place
		numbers := map[int]int{}
		look := func(l []api.Done) {
			t.Helper()
			for _, d := range l {
				told[d.Seq]++
				if d.Err == api.ErrGarbled || d.Err == api.OK && !same([]api.Done{d}, []api.Done{ok(d.Seq, wishes[d.Seq])}) {
					t.Fatalf("seed %d: %v, not %v", seed, d, wishes[d.Seq])
				}
				delete(numbers, d.Seq)
			}
		}
		for range 150 {
			switch n := r.Intn(20); {
			case n < 9:
				m := anything(r)
				n, b, e := c.Send(m)
				if e != api.OK {
					t.Fatalf("seed %d: Send(%v): %v", seed, m, e)
				}
				if answer := f.hears(b); !m.Noreply {
					wishes[n] = said(t, m, answer)
					row = append(row, m)
					numbers[n] = len(row) - 1
				}
			case n < 16:
				k := min(len(f.back), r.Intn(80))
				look(c.Take(f.back[:k]))
				f.back = f.back[k:]
			case n < 19:
				look(c.Tick(r.Intn(4)))
			default:
				look(c.Close())
				f.close()
				f.open()
				b, e := c.Reopen()
				if e != api.OK {
					t.Fatal(e)
				}
				again(t, f, b, numbers, row, wishes)
			}
			if !c.Live() {
				t.Fatalf("seed %d: an honest stream is garbled", seed)
			}
		}
		look(c.Take(f.back))
		look(c.Tick(12))
		for n := range wishes {
			if told[n] != 1 {
				t.Fatalf("seed %d: number %d has ended %d times", seed, n, told[n])
			}
		}
	}
}

// again hands the server what a Reopen tells, command by command: those of the numbers that have not ended.
func again(t *testing.T, f *far, b []byte, numbers map[int]int, row []api.Command, wishes map[int]api.Answer) {
	t.Helper()
	for n := 1; len(b) > 0; n++ {
		if n > 200 {
			t.Fatalf("nobody has sent %q", b)
		}
		at, waits := numbers[n]
		if !waits {
			continue
		}
		mine, _ := words.Bytes(row[at])
		if len(mine) > len(b) || string(b[:len(mine)]) != string(mine) {
			t.Fatalf("%q does not begin with %q", b, mine)
		}
		wishes[n] = said(t, row[at], f.hears(mine))
		b = b[len(mine):]
	}
}
