package client_test

import (
	"math/rand"
	"slices"
	"testing"

	"granary/api"
	"granary/client"
	"granary/reply"
	"granary/words"
)

// Where a command of the plain client is.
const (
	inRow = iota
	overInRow
	isKept
	isGone
)

// ask is a command of the plain client.
type ask struct {
	number, first, times, place int
	m                           api.Command
}

// plain is a client said anew: every command stays in one list for ever, and only its place is changed.
type plain struct {
	wait, clock, number int
	stream, quit        bool
	all                 []*ask
	left                []byte
}

// at are the commands in these places, by their numbers.
func (p *plain) at(places ...int) (l []*ask) {
	for _, a := range p.all {
		if slices.Contains(places, a.place) {
			l = append(l, a)
		}
	}
	return l
}

func (p *plain) send(m api.Command) (int, []byte, api.Errno) {
	if !p.stream || p.quit {
		return 0, nil, api.ErrClosed
	}
	b, e := words.Bytes(m)
	for _, f := range m.Meta {
		if f.Letter == 'q' {
			e = api.ErrForm
		}
	}
	if e != api.OK {
		return 0, nil, api.ErrForm
	}
	if len(p.at(inRow, overInRow)) == 1024 {
		return 0, nil, api.ErrBusy
	}
	p.number++
	if m.Verb == api.Quit {
		p.quit = true
	} else if !m.Noreply {
		p.all = append(p.all, &ask{number: p.number, first: p.clock, times: 1, m: m})
	}
	return p.number, b, api.OK
}

// take hands the bytes in one by one: P20.11 says that this is the same.
func (p *plain) take(chunk []byte) (l []api.Done) {
	for _, b := range chunk {
		if !p.stream {
			return l
		}
		p.left = append(p.left, b)
		row := p.at(inRow, overInRow)
		wrong := len(row) == 0
		if !wrong {
			a, n, e := reply.Read(row[0].m, p.left)
			wrong = e != api.OK
			if n > 0 {
				if row[0].place == inRow {
					l = append(l, ok(row[0].number, a))
				}
				row[0].place = isGone
				p.left = nil
			}
		}
		if wrong {
			for _, a := range p.at(inRow) {
				l = append(l, garbled(a.number))
			}
			p.end()
		}
	}
	return l
}

// end: there is no stream, and the row is empty.
func (p *plain) end() {
	for _, a := range p.at(inRow, overInRow) {
		a.place = isGone
	}
	p.stream, p.quit, p.left = false, false, nil
}

func (p *plain) tick(by int) (l []api.Done) {
	if by > 0 && p.clock > greatest-by {
		p.clock = greatest
	} else if by > 0 {
		p.clock += by
	}
	for _, a := range p.at(inRow, isKept) {
		if p.wait >= 1 && p.clock-a.first >= p.wait {
			l = append(l, late(a.number))
			if a.place == inRow {
				a.place = overInRow
			} else {
				a.place = isGone
			}
		}
	}
	return l
}

func (p *plain) close() (l []api.Done) {
	if !p.stream {
		return nil
	}
	for _, a := range p.at(inRow) {
		reads := a.m.Verb == api.Get || a.m.Verb == api.Gets || a.m.Verb == api.Version || a.m.Verb == api.Stats && a.m.What == ""
		if reads && a.times == 1 {
			a.place = isKept
		} else {
			l = append(l, closed(a.number))
		}
	}
	p.end()
	return l
}

func (p *plain) reopen() (out []byte, e api.Errno) {
	if p.stream {
		return nil, api.ErrBusy
	}
	p.stream = true
	for _, a := range p.at(isKept) {
		a.place, a.times = inRow, 2
		b, _ := words.Bytes(a.m)
		out = append(out, b...)
	}
	return out, api.OK
}

// pair is a client and the plain one, driven alike, with what a server will tell of what was sent into the stream.
type pair struct {
	t      *testing.T
	r      *rand.Rand
	c      *client.Client
	p      *plain
	coming []byte
	wishes map[int]api.Answer // what a server answers a command, by its number
	sent   map[int]api.Command
	told   map[int]int // how often a number has ended
	honest bool        // nothing came in this stream but what a server tells
}

func newPair(t *testing.T, r *rand.Rand, wait int) *pair {
	return &pair{t: t, r: r, c: client.New(wait), p: &plain{wait: wait, stream: true}, wishes: map[int]api.Answer{}, sent: map[int]api.Command{}, told: map[int]int{}, honest: true}
}

// ended: P20.9 and P20.10 hold of what both clients tell.
func (x *pair) ended(what string, got, must []api.Done) {
	x.t.Helper()
	if !same(got, must) {
		x.t.Fatalf("%s tells %s, not %s", what, brief(got), brief(must))
	}
	for _, d := range got {
		m, was := x.sent[d.Seq]
		if x.told[d.Seq]++; x.told[d.Seq] > 1 || !was {
			x.t.Fatalf("number %d has ended %d times", d.Seq, x.told[d.Seq])
		}
		if d.Err == api.OK && !reply.Fits(m, d.Answer) {
			x.t.Fatalf("%v does not fit verb %d", d.Answer, m.Verb)
		}
		if d.Err == api.OK && x.honest && !same([]api.Done{d}, []api.Done{ok(d.Seq, x.wishes[d.Seq])}) {
			x.t.Fatalf("number %d was answered %v, not %v", d.Seq, d.Answer, x.wishes[d.Seq])
		}
		if d.Err == api.ErrGarbled && x.honest {
			x.t.Fatalf("an honest stream is garbled")
		}
	}
	x.alike()
}

// alike: do both stand alike?
func (x *pair) alike() {
	x.t.Helper()
	if f, l := len(x.p.at(inRow, overInRow)), x.p.stream && !x.p.quit; x.c.Flying() != f || x.c.Live() != l {
		x.t.Fatalf("Flying is %d and Live %v, not %d and %v", x.c.Flying(), x.c.Live(), f, l)
	}
}

// pick is any command: most of them are right.
func (x *pair) pick() (api.Command, api.Answer) {
	s := samples()[x.r.Intn(len(samples()))]
	a := s.answers[x.r.Intn(len(s.answers))]
	switch x.r.Intn(60) {
	case 0:
		return cmd(api.Quit), a
	case 1:
		return get(), a
	case 2:
		return flagged(cmd(api.MetaGet, "a"), "kq"), a
	case 3, 4, 5, 6:
		return quiet(s.m), a // of some verbs only
	}
	return s.m, a
}

func (x *pair) send(m api.Command, wish api.Answer) {
	x.t.Helper()
	n, b, e := x.c.Send(m)
	if k, must, why := x.p.send(m); n != k || string(b) != string(must) || e != why {
		x.t.Fatalf("Send(%v) is %d, %q, %v, not %d, %q, %v", m, n, b, e, k, must, why)
	}
	if e == api.OK && m.Verb != api.Quit && !m.Noreply {
		x.wishes[n], x.sent[n] = wish, m
		x.coming = append(x.coming, bytesOf(x.t, m, wish)...)
	}
	x.alike()
}

func (x *pair) take(chunk []byte) {
	x.t.Helper()
	must := x.p.take(chunk)
	x.ended("Take", x.c.Take(chunk), must)
	x.anew()
}

// anew: where the stream has ended, nothing comes of it any more.
func (x *pair) anew() {
	if !x.p.stream {
		x.coming = nil
	}
}

// hear hands in some of what the server tells.
func (x *pair) hear(most int) {
	x.t.Helper()
	n := min(len(x.coming), x.r.Intn(most+1))
	chunk := x.coming[:n]
	x.coming = x.coming[n:]
	was := x.c.Live()
	x.take(chunk)
	if x.honest && x.c.Live() != was {
		x.t.Fatalf("an honest stream is garbled by %q", chunk)
	}
}

// lie hands in what no server tells, or what it tells with a byte turned, left out or doubled.
func (x *pair) lie() {
	x.t.Helper()
	x.honest = false
	chunk := slices.Clone(x.coming[:min(len(x.coming), 1+x.r.Intn(40))])
	x.coming = x.coming[len(chunk):]
	if len(chunk) == 0 {
		chunk = []byte(lines([]string{"END|", "STORED|", "x", "|", "VALUE a 0 1|x|END|"}[x.r.Intn(5)]))
	} else {
		at := x.r.Intn(len(chunk))
		switch x.r.Intn(3) {
		case 0:
			chunk[at] ^= byte(1 << x.r.Intn(8))
		case 1:
			chunk = slices.Delete(chunk, at, at+1)
		default:
			chunk = slices.Insert(chunk, at, chunk[at])
		}
	}
	x.take(chunk)
}

func (x *pair) close() {
	x.t.Helper()
	must := x.p.close()
	x.ended("Close", x.c.Close(), must)
	x.anew()
}

func (x *pair) reopen() {
	x.t.Helper()
	b, e := x.c.Reopen()
	if must, why := x.p.reopen(); string(b) != string(must) || e != why {
		x.t.Fatalf("Reopen is %q, %v, not %q, %v", b, e, must, why)
	}
	if e == api.OK {
		x.honest, x.coming = true, nil
		for _, a := range x.p.at(inRow) {
			x.coming = append(x.coming, bytesOf(x.t, a.m, x.wishes[a.number])...)
		}
	}
	x.alike()
}

func (x *pair) tick(by int) {
	x.t.Helper()
	must := x.p.tick(by)
	x.ended("Tick", x.c.Tick(by), must)
}

// step does any one thing.
func (x *pair) step(lies bool) {
	x.t.Helper()
	switch n := x.r.Intn(100); {
	case n < 45:
		x.send(x.pick())
	case n < 80:
		x.hear([]int{1, 5, 20, 200}[x.r.Intn(4)])
	case n < 90:
		x.tick(x.r.Intn(5) - 1)
	case n < 93:
		x.close()
	case n < 97 || !lies:
		x.reopen()
	default:
		x.lie()
	}
}

// W14: scripts of any kind, honest ones and others, against the client said anew; behind each of them a Tick by wait ends all.
func TestScripts(t *testing.T) {
	for seed := range 400 {
		r := rand.New(rand.NewSource(int64(seed)))
		wait := []int{0, 1, 4, 10, 30, -3}[r.Intn(6)]
		x := newPair(t, r, wait)
		for range 150 {
			x.step(seed%2 == 0)
		}
		if wait < 1 {
			continue
		}
		x.tick(wait)
		for n := range x.sent {
			if x.told[n] != 1 {
				t.Fatalf("seed %d: number %d has ended %d times", seed, n, x.told[n])
			}
		}
	}
}

// The same with rows that are full most of the time.
func TestFullScripts(t *testing.T) {
	for seed := range 2 {
		x := newPair(t, rand.New(rand.NewSource(int64(seed))), 40)
		for range 300 {
			for x.c.Live() && x.c.Flying() < 1024 && x.r.Intn(200) > 0 {
				s := samples()[x.r.Intn(len(samples()))]
				x.send(s.m, s.answers[0])
			}
			x.step(false)
		}
	}
}

// W14: any bytes at all: an Answer fits its command, and nothing ends twice.
func TestAnyBytes(t *testing.T) {
	some := []string{"END|", "STORED|", "VALUE a 0 ", "VALUE b 7 1|x|", "1|", "|", "x", "EN", "HD|", "VA 1|", "ERROR|", "SERVER_ERROR ", "STAT a 1|", "OK|", "7", "MN|", " ", "\x00", "VERSION "}
	for seed := range 400 {
		r := rand.New(rand.NewSource(int64(seed)))
		x := newPair(t, r, 9)
		for range 60 {
			x.honest = false
			switch n := r.Intn(10); {
			case n < 5:
				x.send(x.pick())
			case n < 8:
				x.take([]byte(lines(some[r.Intn(len(some))])))
			case n < 9:
				x.tick(r.Intn(3))
			default:
				x.reopen()
			}
		}
	}
}
