package route_test

import (
	"fmt"
	"math/rand"
	"strings"
	"testing"

	"granary/api"
	"granary/reply"
	"granary/serve"
	"granary/words"
)

const itemLimit = 256

func newServer(t *testing.T) *serve.Server {
	t.Helper()
	s, e := serve.New(api.Config{PageSize: 4096, Pages: 8, Factor: 200, MinChunk: 64, ItemLimit: itemLimit, Hot: 30, Warm: 30})
	if e != api.OK {
		t.Fatal(e)
	}
	return s
}

// far is a server with one connection of the router, and the bytes on their way to it and from it.
type far struct {
	t        *testing.T
	s        *serve.Server
	conn     int
	in, back []byte
}

func newFar(t *testing.T) *far {
	t.Helper()
	f := &far{t: t, s: newServer(t)}
	f.open()
	return f
}

// open opens a connection: what was on its way on another one is lost, what the server holds is not.
func (f *far) open() {
	f.t.Helper()
	b, e := f.s.Do(api.Event{Kind: api.Open})
	if e != api.OK || len(b) != 4 {
		f.t.Fatalf("Open is %v, %v", b, e)
	}
	f.conn, f.in, f.back = int(b[2])<<8|int(b[3]), nil, nil
}

func (f *far) close() { f.s.Do(api.Event{Kind: api.Close, Conn: f.conn}) }

// hears hands the server some bytes, and tells what it tells of them.
func (f *far) hears(b []byte) []byte {
	f.t.Helper()
	told, e := f.s.Do(api.Event{Kind: api.Chunk, Conn: f.conn, Bytes: b})
	if e != api.OK {
		f.t.Fatalf("Chunk is %v", e)
	}
	return told
}

// asOne are lines of which many servers tell what one tells: no tokens, no stats.
func asOne(r *rand.Rand) string {
	k := fmt.Sprintf("key%d", r.Intn(20))
	no := []string{"", "", " noreply"}[r.Intn(3)]
	value := []string{"7", "", "END\r\n", "99999", strings.Repeat("v", 150)}[r.Intn(5)]
	set := fmt.Sprintf("%s %d %d", k, r.Intn(99), []int{0, 0, 3, -1}[r.Intn(4)])
	verb := []string{"set", "set", "add", "replace", "append", "prepend"}[r.Intn(6)]
	switch r.Intn(14) {
	case 0, 1, 2:
		return fmt.Sprintf("%s %s %d%s|%s|", verb, set, len(value), no, value)
	case 3:
		return fmt.Sprintf("%s %s 300%s|%s|", verb, set, no, strings.Repeat("w", 300))
	case 4:
		return "delete " + k + no + "|"
	case 5:
		return []string{"incr ", "decr "}[r.Intn(2)] + k + " 5" + no + "|"
	case 6:
		return "touch " + k + " 2" + no + "|"
	case 7:
		return []string{"flush_all" + no + "|", "flush_all 2|", "version|", "mn|", "verbosity 3|", "bogus|", "get|", "set a 0 0 1|xy|"}[r.Intn(8)]
	case 8:
		return "mg " + k + []string{"", " v", " k v t f s h l", " N30 v", " R9 T5 t"}[r.Intn(5)] + "|"
	case 9:
		return "ms " + k + []string{" 1 T3|x|", " 2 MA|yz|", " 300|" + strings.Repeat("w", 300) + "|", " 1 ME F7 k|z|"}[r.Intn(4)]
	case 10:
		return []string{"md " + k + "|", "md " + k + " I|", "ma " + k + " v|", "ma " + k + " N0 J5 v t|"}[r.Intn(4)]
	}
	line := []string{"get", "get", "gat 3"}[r.Intn(3)]
	for range 1 + r.Intn(12) {
		line += fmt.Sprintf(" key%d", r.Intn(20))
	}
	return line + "|"
}

// W15: many servers are as one: what a connection is told is what one server with all keys would tell it.
func TestManyAsOne(t *testing.T) {
	for seed := range 40 {
		r := rand.New(rand.NewSource(int64(seed)))
		circle := trio(t)
		w := newWorld(t, circle, itemLimit, 5)
		fars := []*far{newFar(t), newFar(t), newFar(t)}
		one := newFar(t)
		w.open(1)
		for range 400 {
			if r.Intn(8) == 0 {
				for _, f := range append(fars, one) {
					f.s.Do(api.Event{Kind: api.Tick, N: 1})
				}
				w.tick(1)
			}
			text := ""
			for range 1 + r.Intn(4) {
				text += lines(asOne(r))
			}
			must := string(one.hears([]byte(text)))
			w.is("Feed", w.r.Feed(1, []byte(text)), api.OK)
			for _, o := range w.r.Sends() {
				w.is("Got", w.r.Got(o.To, fars[o.To].hears(o.Bytes)), api.OK)
			}
			got := ""
			for _, o := range w.r.Tells() {
				got += string(o.Bytes)
			}
			if got != must {
				t.Fatalf("seed %d: %q is told %q, not %q", seed, text, got, must)
			}
		}
	}
}

// A moment is when a key on its server came to have a value; "" is none.
type moment struct {
	at    int
	value string
}

// asked is a command of a connection that has not been told yet.
type asked struct {
	at int
	m  api.Command
}

// net is a router with honest servers, whose bytes are on their way for a while, and that are lost now and then.
type net struct {
	t       *testing.T
	r       *rand.Rand
	w       *world
	fars    []*far
	owner   func(key string) int
	now     int
	values  int
	history map[string][]moment
	flushed [2]int // how much of the reply to the flush with which each is coming has come; 4, if it is up
	off     [2][]moment
	asked   map[int][]asked
}

func newNet(t *testing.T, r *rand.Rand) *net {
	t.Helper()
	circle := pair(t)
	x := &net{t: t, r: r, w: newWorld(t, circle, itemLimit, 0), fars: []*far{newFar(t), newFar(t)}, history: map[string][]moment{}, flushed: [2]int{4, 4}, asked: map[int][]asked{}}
	x.owner = func(key string) int { n, _ := circle.Owner([]byte(key)); return n }
	for n := 1; n <= 3; n++ {
		x.w.open(n)
	}
	for _, k := range "abcdef" {
		x.history[string(k)] = []moment{{0, ""}}
	}
	return x
}

// send lets a connection send a command; each value is another.
func (x *net) send() {
	k := string(rune('a' + x.r.Intn(6)))
	m := api.Command{Verb: api.Get}
	switch x.r.Intn(6) {
	case 0, 1:
		x.values++
		m = api.Command{Verb: api.Set, Keys: []string{k}, Data: []byte(fmt.Sprint("v", x.values))}
	case 2:
		m = api.Command{Verb: api.Delete, Keys: []string{k}}
	default:
		for range 1 + x.r.Intn(4) {
			m.Keys = append(m.Keys, string(rune('a'+x.r.Intn(6))))
		}
	}
	m.Noreply = m.Verb != api.Get && x.r.Intn(4) == 0
	b, e := words.Bytes(m)
	if e != api.OK {
		x.t.Fatal(e)
	}
	conn := 1 + x.r.Intn(3)
	x.w.is("Feed", x.w.r.Feed(conn, b), api.OK)
	if !m.Noreply {
		x.asked[conn] = append(x.asked[conn], asked{x.now, m})
	}
}

// carry carries what goes out.
func (x *net) carry() {
	for _, o := range x.w.r.Sends() {
		x.fars[o.To].in = append(x.fars[o.To].in, o.Bytes...)
	}
}

// work lets a server do its next command, if it has one.
func (x *net) work(n int) {
	f := x.fars[n]
	steps, _ := words.All(f.in, itemLimit)
	if len(steps) == 0 {
		return
	}
	f.back = append(f.back, f.hears(f.in[:steps[0].To])...)
	f.in = f.in[steps[0].To:]
	m := steps[0].Command
	for k := range x.history {
		if x.owner(k) != n {
			continue
		}
		switch {
		case m.Verb == api.FlushAll || m.Verb == api.Delete && m.Keys[0] == k:
			x.history[k] = append(x.history[k], moment{x.now, ""})
		case m.Verb == api.Set && m.Keys[0] == k:
			x.history[k] = append(x.history[k], moment{x.now, string(m.Data)})
		}
	}
}

// hear hands in some of what a server has answered.
func (x *net) hear(n int) {
	f := x.fars[n]
	k := min(len(f.back), 1+x.r.Intn(30))
	x.w.is("Got", x.w.r.Got(n, f.back[:k]), api.OK)
	f.back = f.back[k:]
	x.flushed[n] = min(x.flushed[n]+k, 4)
}

// cut cuts a server off: what is on its way is lost, what it holds is not.
func (x *net) cut(n int) {
	x.carry()
	x.w.down(n)
	x.fars[n].close()
	x.fars[n].open()
	x.flushed[n] = -1 << 40
}

// mend: a server that was cut off may come up again.
func (x *net) mend(n int) {
	if x.flushed[n] < 0 {
		x.w.up(n)
		x.flushed[n] = 0
	}
}

// away: was a server not up at some moment?
func (x *net) away(n, from, to int) bool {
	for _, m := range x.off[n] {
		if m.at >= from && m.at <= to {
			return true
		}
	}
	return false
}

// had: did a key have that value at some moment?
func (x *net) had(key, value string, from, to int) bool {
	l := x.history[key]
	for i, m := range l {
		till := x.now
		if i+1 < len(l) {
			till = l[i+1].at
		}
		if m.value == value && m.at <= to && till >= from {
			return true
		}
	}
	return false
}

// look reads what connections are told, reply by reply, and asks whether it was so.
func (x *net) look() {
	x.t.Helper()
	for _, o := range x.w.r.Tells() {
		for raw := o.Bytes; len(raw) > 0; {
			if len(x.asked[o.To]) == 0 {
				x.t.Fatalf("%d is told %q, and has asked nothing", o.To, raw)
			}
			a := x.asked[o.To][0]
			x.asked[o.To] = x.asked[o.To][1:]
			said, n, e := reply.Read(a.m, raw)
			if n == 0 || e != api.OK {
				x.t.Fatalf("verb %d is told %q", a.m.Verb, raw)
			}
			x.right(a, said)
			raw = raw[n:]
		}
	}
}

// right: may a command be answered so?
func (x *net) right(a asked, said api.Answer) {
	x.t.Helper()
	k := a.m.Keys[0]
	fine := false
	switch said.Kind {
	case api.Stored:
		fine = a.m.Verb == api.Set && x.had(k, string(a.m.Data), a.at, x.now)
	case api.Deleted, api.NotFound:
		fine = a.m.Verb == api.Delete && x.had(k, "", a.at, x.now)
	case api.Refused:
		fine = said.Text == "SERVER_ERROR server is down" && x.away(x.owner(k), a.at, x.now)
	case api.Values:
		fine = true
		rest := said.Entries
		for _, k := range a.m.Keys {
			if len(rest) > 0 && rest[0].Key == k {
				fine = fine && x.had(k, string(rest[0].Value), a.at, x.now)
				rest = rest[1:]
			} else {
				fine = fine && (x.had(k, "", a.at, x.now) || x.away(x.owner(k), a.at, x.now))
			}
		}
		fine = fine && len(rest) == 0
	}
	if !fine {
		x.t.Fatalf("%+v (asked at %d) is told %+v at %d: %v", a.m, a.at, said, x.now, x.history)
	}
}

// P21.13: what a connection is told was so on the key's server between its Feed and its being told, or that server was not up; each command is told once, in its order.
func TestFresh(t *testing.T) {
	for seed := range 150 {
		r := rand.New(rand.NewSource(int64(seed)))
		x := newNet(t, r)
		for x.now = 1; x.now < 500; x.now++ {
			n := r.Intn(2)
			switch k := r.Intn(100); {
			case k < 30:
				x.send()
			case k < 45:
				x.carry()
			case k < 65:
				x.work(n)
			case k < 85:
				x.hear(n)
			case k < 96:
				x.look()
			case k < 98:
				x.cut(n)
			default:
				x.mend(n)
			}
			for n := range x.fars {
				if x.flushed[n] < 4 {
					x.off[n] = append(x.off[n], moment{at: x.now})
				}
			}
		}
		for n := range x.fars {
			x.cut(n)
			x.off[n] = append(x.off[n], moment{at: x.now})
		}
		x.look()
		for conn, l := range x.asked {
			if len(l) > 0 {
				t.Fatalf("seed %d: %d is never told %v", seed, conn, l)
			}
		}
	}
}

// P21.13: nothing is told of what a server kept while it was down.
func TestKeepsNothing(t *testing.T) {
	w := two(t, itemLimit, 0)
	f := newFar(t)
	turn := func(text, must string) {
		t.Helper()
		w.feed(1, text)
		for _, o := range w.r.Sends() {
			w.is("Got", w.r.Got(o.To, f.hears(o.Bytes)), api.OK)
		}
		w.tells(1, must)
	}
	turn("set a 0 0 1|x|get a|", "STORED|VALUE a 0 1|x|END|")
	w.down(0)
	turn("get a|delete a|", "END|"+isDown)
	if string(f.hears([]byte("get a\r\n"))) != lines("VALUE a 0 1|x|END|") {
		t.Fatal("the server has lost it")
	}
	w.up(0)
	turn("get a|", "END|") // it is coming
	turn("get a|add a 0 0 1|y|get a|", "END|STORED|VALUE a 0 1|y|END|")
}
