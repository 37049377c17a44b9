package serve_test

import (
	"bytes"
	"fmt"
	"reflect"
	"slices"
	"strings"
	"testing"

	"granary/api"
	"granary/count"
	"granary/line"
	"granary/meta"
	"granary/reply"
	"granary/serve"
	"granary/store"
	"granary/words"
)

// shadow is a server by the chapter's words over the layers below: at each chunk all bytes that are no step yet are read anew.
type shadow struct {
	config api.Config
	store  *store.Store
	board  *count.Board
	raw    map[int][]byte // of each open connection, what has come behind its last step
	last   int
}

func shadowOf(t *testing.T, c api.Config, p api.Pace) *shadow {
	t.Helper()
	s, e := store.Paced(c, p)
	if e != api.OK {
		t.Fatalf("Paced(%v, %v): %v", c, p, e)
	}
	return &shadow{c, s, count.New(), map[int][]byte{}, 0}
}

func (x *shadow) do(e api.Event) ([]byte, api.Errno) {
	_, open := x.raw[e.Conn]
	switch {
	case e.Kind == api.Open && len(x.raw) == 1024:
		return nil, api.ErrMany
	case e.Kind == api.Open:
		x.last++
		x.raw[x.last] = []byte{}
		x.board.Add(27, 1)
		return []byte{0, byte(x.last >> 16), byte(x.last >> 8), byte(x.last)}, api.OK
	case e.Kind == api.Tick:
		return nil, x.store.Tick(e.N)
	case e.Kind != api.Close && e.Kind != api.Chunk:
		return nil, api.ErrArg
	case !open:
		return nil, api.ErrConn
	case e.Kind == api.Close:
		delete(x.raw, e.Conn)
		return nil, api.OK
	}
	raw := append(x.raw[e.Conn], e.Bytes...)
	steps, left := words.All(raw, x.config.ItemLimit)
	x.raw[e.Conn] = raw[len(raw)-left:]
	var out []byte
	for _, s := range steps {
		out = append(out, x.step(s)...)
		if s.Command.Verb == api.Quit {
			delete(x.raw, e.Conn)
		}
	}
	return out, api.OK
}

func (x *shadow) step(s api.Step) []byte {
	if s.Wrong.Kind != 0 {
		x.board.Add(30, 1)
		return reply.Wrong(s.Wrong)
	}
	c := s.Command
	var a api.Answer
	switch {
	case c.Verb == api.Stats && c.What == "reset":
		x.board.Reset()
		a.Kind = api.Reset
	case c.Verb == api.Stats:
		x.board.Set(25, uint64(x.store.Len()))
		x.board.Set(26, uint64(x.store.Bytes()))
		x.board.Set(28, uint64(len(x.raw)))
		a.Kind, a.Stats = api.Stat, x.board.Stats()
	case c.Verb == api.MetaNoop:
		a = meta.Do(x.store, c)
		x.board.Command(c, a, nil, api.Meter{})
	case c.Verb > api.MetaNoop || c.Verb < api.Get:
		panic("no verb")
	case c.Verb >= api.MetaGet:
		a = meta.Do(x.store, c)
		x.board.Command(c, a, x.store.Why(), x.store.Meter())
	default:
		a = x.store.Do(c)
		x.board.Command(c, a, x.store.Why(), x.store.Meter())
	}
	if a.Kind == api.Refused {
		who := "SERVER_ERROR "
		if a.Text == "cannot increment or decrement non-numeric value" {
			who = "CLIENT_ERROR "
		}
		a.Text = who + a.Text
	}
	b, e := reply.Bytes(c, a)
	if e != api.OK {
		panic(fmt.Sprintf("reply refuses %+v of %+v", a, c))
	}
	return b
}

func (x *shadow) sight() sight {
	v := sight{Now: x.store.Now()}
	for conn := range x.raw {
		v.Conns = append(v.Conns, conn)
	}
	slices.Sort(v.Conns)
	for _, conn := range v.Conns {
		f := line.New(x.config.ItemLimit)
		f.Feed(x.raw[conn])
		v.Holds = append(v.Holds, f.Held())
	}
	return v
}

// tight has one page a class, so that things are dropped and refused all the time.
func tight() api.Config {
	c := small()
	c.Pages = 3
	return c
}

// P16.2 to P16.5, W11: whatever is sent, each event is answered as by the layers below, and so is what stats tells.
func TestShadow(t *testing.T) {
	seen := map[string]uint64{}
	for seed := range uint64(60) {
		d := diceOf(seed)
		d.odd, d.crowd = pick(d, 0, 20, 100), pick(d, false, true)
		c := pick(d, small(), tight(), tight(), wide())
		p := pick(d, usual(), slow(), api.Pace{}, api.Pace{Buckets: 1, Links: 1, Crawl: 1}, api.Pace{Buckets: 100, Links: 100, Crawl: 100})
		s, x := paced(t, c, p, 0), shadowOf(t, c, p)
		d.token = x.token
		for i := range 1000 {
			e := d.event()
			got, no := s.Do(e)
			must, but := x.do(e)
			if no != but || !bytes.Equal(got, must) {
				t.Fatalf("seed %d, event %d, %.400q on %d: %.900q, %v, not %.900q, %v", seed, i, e.Bytes, e.Conn, got, no, must, but)
			}
			v := sightOf(s)
			if m := x.sight(); !reflect.DeepEqual(v, m) {
				t.Fatalf("seed %d, event %d: %v, not %v", seed, i, v, m)
			}
			for _, held := range v.Holds {
				if held > 2048+c.ItemLimit+3 {
					t.Fatalf("seed %d, event %d: %d bytes are held", seed, i, held)
				}
			}
		}
		x.tell(t, s, seen)
	}
	for _, name := range strings.Fields(names) {
		if seen[name] == 0 {
			t.Errorf("%s was zero in all scripts", name)
		}
	}
}

// token is that of a key's live item.
func (x *shadow) token(key string) uint64 {
	e, _ := x.store.Find(key)
	return e.Token
}

// tell holds stats of a server against the shadow's once more, and gathers them.
func (x *shadow) tell(t *testing.T, s *serve.Server, seen map[string]uint64) {
	t.Helper()
	s.Do(opening())
	x.do(opening())
	x.do(chunk(x.last, "stats|"))
	for name, n := range read(t, s, x.last) {
		if must := x.board.Read(1 + slices.Index(strings.Fields(names), name)); n != must {
			t.Errorf("%s is %d, not %d", name, n, must)
		}
		seen[name] += n
	}
}
