package route_test

import (
	"fmt"
	"math/rand"
	"slices"
	"strings"
	"testing"

	"granary/api"
	"granary/reply"
	"granary/ring"
	"granary/words"
)

// The router said anew, as plainly as the chapter says it: all steps of a connection are worked out from all its bytes, all replies from all that has become of what was sent.

// What becomes of what is sent.
const (
	waits = iota
	answered
	unanswered
)

// ask is a command that was to be sent to a server.
type ask struct {
	server int
	m      api.Command
	at     int // the tick
	end    int
	answer api.Answer
}

// What a server is.
const (
	isUp = iota
	isComing
	isGone
)

type plainServer struct {
	state int
	asks  []*ask // that have not ended
	left  []byte
	out   string
}

// plainStep is a step that was done, and what it has sent.
type plainStep struct {
	step api.Step
	asks []*ask
}

type plainConn struct {
	raw   []byte
	open  bool
	quit  bool
	steps []plainStep
	told  int // how many of them have been told
}

type plain struct {
	ring    ring.Ring
	limit   int
	wait    int
	clock   int
	servers []*plainServer
	conns   []*plainConn // the first one is none
}

func newPlain(r ring.Ring, limit, wait int) *plain {
	p := &plain{ring: r, limit: limit, wait: wait, conns: []*plainConn{{}}}
	for range r.Servers() {
		p.servers = append(p.servers, &plainServer{})
	}
	return p
}

func (p *plain) conn(n int) *plainConn {
	if n < 1 || n >= len(p.conns) || !p.conns[n].open {
		return nil
	}
	return p.conns[n]
}

func (p *plain) open() (int, api.Errno) {
	n := 0
	for _, c := range p.conns {
		if c.open {
			n++
		}
	}
	if n == 1024 {
		return 0, api.ErrMany
	}
	p.conns = append(p.conns, &plainConn{open: true})
	return len(p.conns) - 1, api.OK
}

func (p *plain) close(n int) api.Errno {
	c := p.conn(n)
	if c == nil {
		return api.ErrConn
	}
	*c = plainConn{}
	return api.OK
}

func (p *plain) feed(n int, chunk []byte) api.Errno {
	c := p.conn(n)
	if c == nil {
		return api.ErrConn
	}
	c.raw = append(c.raw, chunk...)
	all, _ := words.All(c.raw, p.limit)
	for _, s := range all[len(c.steps):] {
		c.steps = append(c.steps, plainStep{s, p.asks(s.Command)})
		if s.Command.Verb == api.Quit {
			c.open, c.quit = false, true
		}
	}
	return api.OK
}

// asks sends what a step's command is to send.
func (p *plain) asks(m api.Command) (l []*ask) {
	one := func(m api.Command) []*ask {
		n, _ := p.ring.Owner([]byte(m.Keys[0]))
		return []*ask{p.send(n, m)}
	}
	for _, f := range m.Meta {
		if f.Letter == 'q' {
			return nil
		}
	}
	switch {
	case m.Verb == 0 || m.Verb == api.Quit || m.Verb == api.Version || m.Verb == api.Verbosity || m.Verb == api.MetaNoop || m.Verb == api.Stats:
		return nil
	case m.Large && (m.Verb == api.Append || m.Verb == api.Prepend):
		return nil
	case m.Large:
		return one(api.Command{Verb: api.Delete, Keys: m.Keys})
	case m.Verb == api.FlushAll:
		for n, s := range p.servers {
			if s.state == isUp {
				l = append(l, p.send(n, m))
			}
		}
		return l
	case m.Verb <= api.Gats:
		for n := range p.servers {
			part := m
			part.Keys = nil
			for _, k := range m.Keys {
				if o, _ := p.ring.Owner([]byte(k)); o == n {
					part.Keys = append(part.Keys, k)
				}
			}
			if part.Keys != nil {
				l = append(l, p.send(n, part))
			}
		}
		return l
	}
	return one(m)
}

func (p *plain) send(n int, m api.Command) *ask {
	a := &ask{server: n, m: m, at: p.clock}
	s := p.servers[n]
	b, _ := words.Bytes(m)
	switch {
	case s.state != isUp:
		a.end = unanswered
	case len(s.asks) == 1024:
		a.end, a.answer = answered, api.Answer{Kind: api.Refused, Text: "SERVER_ERROR server is busy"}
	case m.Noreply:
		s.out += string(b)
		a.end = answered
	default:
		s.out += string(b)
		s.asks = append(s.asks, a)
	}
	return a
}

func (p *plain) has(n int) bool { return n >= 0 && n < len(p.servers) }

// got hands the bytes in one by one: P21.14 says that this is the same.
func (p *plain) got(n int, chunk []byte) api.Errno {
	if !p.has(n) {
		return api.ErrServer
	}
	s := p.servers[n]
	for _, b := range chunk {
		if s.state == isGone {
			break
		}
		if len(s.asks) == 0 {
			p.fall(n)
			break
		}
		s.left = append(s.left, b)
		a, k, e := reply.Read(s.asks[0].m, s.left)
		switch {
		case e != api.OK:
			p.fall(n)
		case k > 0:
			s.asks[0].end, s.asks[0].answer = answered, a
			s.asks, s.left = s.asks[1:], nil
			if s.state == isComing {
				s.state = isUp
				if a.Kind != api.Fine {
					p.fall(n)
				}
			}
		}
	}
	return api.OK
}

func (p *plain) fall(n int) {
	for _, a := range p.servers[n].asks {
		a.end = unanswered
	}
	p.servers[n] = &plainServer{state: isGone}
}

func (p *plain) down(n int) api.Errno {
	if !p.has(n) {
		return api.ErrServer
	}
	if p.servers[n].state != isGone {
		p.fall(n)
	}
	return api.OK
}

func (p *plain) up(n int) api.Errno {
	if !p.has(n) {
		return api.ErrServer
	}
	if s := p.servers[n]; s.state == isGone {
		s.state = isUp
		p.send(n, api.Command{Verb: api.FlushAll})
		s.state = isComing
	}
	return api.OK
}

func (p *plain) tick(n int) api.Errno {
	if n < 1 {
		return api.ErrArg
	}
	p.clock += n
	for n, s := range p.servers {
		if p.wait >= 1 && len(s.asks) > 0 && p.clock-s.asks[0].at >= p.wait {
			p.fall(n)
		}
	}
	return api.OK
}

func (p *plain) sends() (l []api.Out) {
	for n, s := range p.servers {
		if s.out != "" {
			l = append(l, api.Out{To: n, Bytes: []byte(s.out)})
		}
		s.out = ""
	}
	return l
}

func (p *plain) tells() (l []api.Out) {
	for n, c := range p.conns {
		text := ""
		for c.told < len(c.steps) {
			s := c.steps[c.told]
			said, come := p.reply(s)
			if !come {
				break
			}
			text += said
			c.told++
		}
		if text != "" {
			l = append(l, api.Out{To: n, Bytes: []byte(text)})
		}
	}
	return l
}

// reply is what is told of a step, if it has come.
func (p *plain) reply(s plainStep) (string, bool) {
	m := s.step.Command
	if m.Verb == 0 {
		return string(reply.Wrong(s.step.Wrong)), true
	}
	if m.Verb == api.Quit || m.Noreply {
		return "", true
	}
	if slices.ContainsFunc(s.asks, func(a *ask) bool { return a.end == waits }) {
		return "", false
	}
	text := p.text(s)
	if text != "" {
		return lines(text), true
	}
	a := s.asks[0].answer
	if m.Verb <= api.Gats {
		a = p.join(s)
	}
	b, e := reply.Bytes(m, a)
	if e != api.OK {
		return fmt.Sprintf("verb %d can't be told %v", m.Verb, a), true
	}
	return string(b), true
}

// text is what the router itself tells of a step, if it does.
func (p *plain) text(s plainStep) string {
	m := s.step.Command
	silent := len(s.asks) > 0 && s.asks[0].end == unanswered
	for _, f := range m.Meta {
		if f.Letter == 'q' {
			return notHere
		}
	}
	switch {
	case m.Verb == api.Version:
		return "VERSION granary 1|"
	case m.Verb == api.Verbosity:
		return "OK|"
	case m.Verb == api.MetaNoop:
		return "MN|"
	case m.Verb == api.Stats:
		return notHere
	case m.Large && !silent:
		return tooLarge
	case m.Verb == api.FlushAll:
		fine := 0
		for _, a := range s.asks {
			if a.end == answered && a.answer.Kind == api.Fine {
				fine++
			}
		}
		if fine == 0 || fine < len(s.asks) {
			return someDid
		}
		return "OK|"
	case m.Verb <= api.Gats || !silent:
		return ""
	case m.Verb == api.MetaGet:
		return "EN|"
	}
	return isDown
}

// join is the answer of many keys.
func (p *plain) join(s plainStep) api.Answer {
	rest := make([][]api.Entry, len(p.servers))
	for _, a := range s.asks {
		if a.end == answered && a.answer.Kind != api.Values {
			return a.answer
		}
		rest[a.server] = a.answer.Entries
	}
	all := api.Answer{Kind: api.Values}
	for _, k := range s.step.Command.Keys {
		n, _ := p.ring.Owner([]byte(k))
		if len(rest[n]) > 0 && rest[n][0].Key == k {
			all.Entries = append(all.Entries, rest[n][0])
			rest[n] = rest[n][1:]
		}
	}
	return all
}

// both is a router and the plain one, driven alike, with servers that tell anything that fits.
type both struct {
	t      *testing.T
	r      *rand.Rand
	w      *world
	p      *plain
	heard  [][]byte // what each server has got and not answered yet
	coming [][]byte // what it has answered and is still to come
	wrote  map[int]string
	lies   bool // some server has told what it was not asked
}

func newBoth(t *testing.T, r *rand.Rand, circle ring.Ring, limit, wait int) *both {
	t.Helper()
	n := len(circle.Servers())
	return &both{t: t, r: r, w: newWorld(t, circle, limit, wait), p: newPlain(circle, limit, wait), heard: make([][]byte, n), coming: make([][]byte, n), wrote: map[int]string{}}
}

// alike: do both refuse alike?
func (x *both) alike(what string, got, must api.Errno) {
	x.t.Helper()
	if got != must {
		x.t.Fatalf("%s is %v, not %v", what, got, must)
	}
}

func (x *both) open() {
	x.t.Helper()
	n, e := x.w.r.Open()
	if k, must := x.p.open(); n != k || e != must {
		x.t.Fatalf("Open is %d, %v, not %d, %v", n, e, k, must)
	}
}

// anyConn is a connection's number: mostly of one that was open once.
func (x *both) anyConn() int { return 1 + x.r.Intn(max(len(x.p.conns), 2)) }

func (x *both) feed(n int, chunk []byte) {
	x.t.Helper()
	x.alike("Feed", x.w.r.Feed(n, chunk), x.p.feed(n, chunk))
}

// write lets a connection send some bytes of the commands that it writes.
func (x *both) write(n, most int) {
	x.t.Helper()
	for len(x.wrote[n]) < most {
		x.wrote[n] += lines(x.line())
	}
	k := x.r.Intn(most + 1)
	x.feed(n, []byte(x.wrote[n][:k]))
	x.wrote[n] = x.wrote[n][k:]
}

func (x *both) key() string { return string(rune('a' + x.r.Intn(6))) }

func (x *both) keys() string {
	l := []string{}
	for range 1 + x.r.Intn(5) {
		l = append(l, x.key())
	}
	return strings.Join(l, " ")
}

// line is any command; most of them are right.
func (x *both) line() string {
	k := x.key()
	no := []string{"", "", " noreply"}[x.r.Intn(3)]
	switch x.r.Intn(20) {
	case 0, 1, 2:
		return []string{"get ", "gets "}[x.r.Intn(2)] + x.keys() + "|"
	case 3, 4:
		return []string{"gat 5 ", "gats -1 "}[x.r.Intn(2)] + x.keys() + "|"
	case 5, 6:
		verb := []string{"set", "add", "replace", "append", "prepend"}[x.r.Intn(5)]
		return verb + " " + k + " 7 0 6" + no + "|get ||"
	case 7:
		verb := []string{"set", "add", "replace", "append", "prepend"}[x.r.Intn(5)]
		return verb + " " + k + " 7 0 9" + no + "|123456789|"
	case 8:
		return "cas " + k + " 0 0 " + []string{"1 7" + no + "|x|", "9 7" + no + "|123456789|"}[x.r.Intn(2)]
	case 9:
		return "delete " + k + no + "|"
	case 10:
		return []string{"incr ", "decr "}[x.r.Intn(2)] + k + " 3" + no + "|"
	case 11:
		return "touch " + k + " 9" + no + "|"
	case 12:
		return []string{"flush_all", "flush_all 4"}[x.r.Intn(2)] + no + "|"
	case 13:
		return []string{"version|", "mn|", "stats|", "stats reset|", "verbosity 1" + no + "|"}[x.r.Intn(5)]
	case 14, 15:
		return "mg " + k + []string{"", " v", " k v t", " q", " v q"}[x.r.Intn(5)] + "|"
	case 16:
		return "ms " + k + []string{" 1|x|", " 9 c|123456789|", " 1 q|x|", " 9 q|123456789|"}[x.r.Intn(4)]
	case 17:
		return []string{"md ", "ma "}[x.r.Intn(2)] + k + []string{"", " q", " k c"}[x.r.Intn(3)] + "|"
	case 18:
		return []string{"bogus|", "get|", "set " + k + " 0 0 1|xy|", "|", "touch " + k + " z|"}[x.r.Intn(5)]
	}
	return []string{"quit|", "get " + k + "|", "mn|", "get " + k + "|"}[x.r.Intn(4)]
}

// sends: both tell the same, which goes out.
func (x *both) sends() {
	x.t.Helper()
	got, must := x.w.r.Sends(), x.p.sends()
	if !same(got, must) {
		x.t.Fatalf("Sends tells %s, not %s", brief(got), brief(must))
	}
	for _, o := range got {
		x.heard[o.To] = append(x.heard[o.To], o.Bytes...)
	}
}

func (x *both) tells() {
	x.t.Helper()
	got, must := x.w.r.Tells(), x.p.tells()
	if !same(got, must) {
		x.t.Fatalf("Tells tells %s, not %s", brief(got), brief(must))
	}
}

// answer lets a server answer all that it has got.
func (x *both) answer(n int) {
	x.t.Helper()
	steps, left := words.All(x.heard[n], 100)
	if left != 0 {
		x.t.Fatalf("what goes out to %d is no row of commands: %q", n, x.heard[n])
	}
	x.heard[n] = nil
	for _, s := range steps {
		if s.Command.Verb == 0 {
			x.t.Fatalf("what goes out to %d is no command: %v", n, s)
		}
		b, e := reply.Bytes(s.Command, x.fitting(s.Command))
		if e != api.OK {
			x.t.Fatalf("verb %d: %v", s.Command.Verb, e)
		}
		x.coming[n] = append(x.coming[n], b...)
	}
}

// fitting is an answer that fits a command.
func (x *both) fitting(m api.Command) api.Answer {
	if x.r.Intn(12) == 0 {
		return api.Answer{Kind: api.Refused, Text: []string{"ERROR", "SERVER_ERROR x", "CLIENT_ERROR y"}[x.r.Intn(3)]}
	}
	kinds := map[int][]int{api.Cas: {api.Stored, api.Exists, api.NotFound}, api.Delete: {api.Deleted, api.NotFound}, api.Touch: {api.Touched, api.NotFound}, api.FlushAll: {api.Fine}}
	switch {
	case m.Verb <= api.Gats:
		a := api.Answer{Kind: api.Values}
		for _, k := range m.Keys {
			if x.r.Intn(3) > 0 {
				a.Entries = append(a.Entries, api.Entry{Key: k, Value: []byte([]string{"", "END\r\n", "v"}[x.r.Intn(3)]), Flags: uint64(x.r.Intn(99)), Token: uint64(x.r.Intn(99))})
			}
		}
		return a
	case m.Verb == api.MetaGet:
		return []api.Answer{{Kind: api.Meta, Text: "EN"}, {Kind: api.Meta, Text: "HD t5"}, {Kind: api.Meta, Text: "VA 4 W", Entries: []api.Entry{{Value: []byte("EN\r\n")}}}}[x.r.Intn(3)]
	case m.Verb >= api.MetaSet:
		return api.Answer{Kind: api.Meta, Text: []string{"HD", "NF", "EX"}[x.r.Intn(3)]}
	case m.Verb == api.Incr || m.Verb == api.Decr:
		return api.Answer{Kind: api.Number, Number: uint64(x.r.Intn(1000))}
	case kinds[m.Verb] != nil:
		return api.Answer{Kind: kinds[m.Verb][x.r.Intn(len(kinds[m.Verb]))]}
	}
	return api.Answer{Kind: []int{api.Stored, api.NotStored}[x.r.Intn(2)]}
}

func (x *both) got(n int, chunk []byte) {
	x.t.Helper()
	x.alike("Got", x.w.r.Got(n, chunk), x.p.got(n, chunk))
	x.lose()
}

// lose: of a server that is down nothing is on its way.
func (x *both) lose() {
	for n, s := range x.p.servers {
		if s.state == isGone {
			x.heard[n], x.coming[n] = nil, nil
		}
	}
}

// hear hands in some of what a server tells.
func (x *both) hear(n, most int) {
	x.t.Helper()
	x.answer(n)
	k := min(len(x.coming[n]), x.r.Intn(most+1))
	chunk := x.coming[n][:k]
	x.coming[n] = x.coming[n][k:]
	was := x.p.servers[n].state
	x.got(n, chunk)
	if !x.lies && was == isUp && x.p.servers[n].state != isUp {
		x.t.Fatalf("an honest server goes down at %q", chunk)
	}
}

// step does any one thing.
func (x *both) step(lies bool) {
	x.t.Helper()
	n := x.r.Intn(len(x.p.servers))
	switch k := x.r.Intn(100); {
	case k < 30:
		x.write(x.anyConn(), []int{1, 10, 60, 300}[x.r.Intn(4)])
	case k < 45:
		x.sends()
	case k < 60:
		x.tells()
	case k < 85:
		x.hear(n, []int{1, 8, 40, 400}[x.r.Intn(4)])
	case k < 90:
		x.open()
	case k < 92:
		k := x.anyConn()
		x.alike("Close", x.w.r.Close(k), x.p.close(k))
	case k < 94:
		k := x.r.Intn(4)
		x.alike("Tick", x.w.r.Tick(k), x.p.tick(k))
		x.lose()
	case k < 95:
		n := x.r.Intn(5) - 1
		x.alike("Down", x.w.r.Down(n), x.p.down(n))
		x.lose()
	case k < 99:
		n := x.r.Intn(5) - 1
		x.alike("Up", x.w.r.Up(n), x.p.up(n))
	case lies:
		x.lies = true
		x.got(n, []byte(lines([]string{"END|", "STORED|", "x", "|", "VALUE a 0 1|x|END|", "OK|"}[x.r.Intn(6)])))
	}
}

// W15: scripts of any kind, with honest servers and others, against the router said anew.
func TestScripts(t *testing.T) {
	for seed := range 600 {
		r := rand.New(rand.NewSource(int64(seed)))
		circle := []ring.Ring{pair(t), trio(t)}[seed%2]
		x := newBoth(t, r, circle, 8, []int{0, 1, 4, 9}[r.Intn(4)])
		x.open()
		for range 250 {
			x.step(seed%3 == 0)
		}
		x.sends()
		x.tells()
		for n := range x.p.servers {
			x.alike("Down", x.w.r.Down(n), x.p.down(n))
		}
		x.tells()
	}
}

// The same with rows that are full most of the time.
func TestFullScripts(t *testing.T) {
	for seed := range 3 {
		r := rand.New(rand.NewSource(int64(seed)))
		x := newBoth(t, r, pair(t), 8, 40)
		for range 3 {
			x.open()
		}
		for range 60 {
			x.feed(1+r.Intn(3), []byte(lines(strings.Repeat("get a b|", 300))))
			for range 5 {
				x.step(false)
			}
			if r.Intn(3) == 0 {
				x.sends()
				x.hear(0, 4000)
				x.tells()
			}
		}
	}
}
