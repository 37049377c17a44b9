package route_test

import (
	"fmt"
	"strings"
	"testing"

	"granary/api"
	"granary/ring"
	"granary/route"
)

// lines writes the end of each line, which stands as | in the tests.
func lines(text string) string { return strings.ReplaceAll(text, "|", "\r\n") }

// circle is the ring of servers of weight 1.
func circle(t *testing.T, names ...string) ring.Ring {
	t.Helper()
	var l []api.Server
	for _, n := range names {
		l = append(l, api.Server{Name: n, Weight: 1})
	}
	r, e := ring.Of(l...)
	if e != api.OK {
		t.Fatal(e)
	}
	return r
}

// owners: the keys a, b, c .. are these servers' in a ring.
func owners(t *testing.T, r ring.Ring, must string) {
	t.Helper()
	for i := range must {
		if n, e := r.Owner([]byte{'a' + byte(i)}); n != int(must[i]-'0') || e != api.OK {
			t.Fatalf("%c is %d's: %v", 'a'+i, n, e)
		}
	}
}

// pair is a ring of two servers: a, c and e are 0's, b, d and f are 1's.
func pair(t *testing.T) ring.Ring {
	t.Helper()
	r := circle(t, "larch", "spruce")
	owners(t, r, "010101")
	return r
}

// trio is a ring of three servers: a and d are 0's, b and e are 1's, c and f are 2's.
func trio(t *testing.T) ring.Ring {
	t.Helper()
	r := circle(t, "attic", "elm", "spruce")
	owners(t, r, "012012")
	return r
}

// world is a router that is driven by a test.
type world struct {
	t *testing.T
	r *route.Router
}

func newWorld(t *testing.T, r ring.Ring, limit, wait int) *world {
	t.Helper()
	x, e := route.New(r, limit, wait)
	if x == nil || e != api.OK {
		t.Fatalf("New is %v, %v", x, e)
	}
	return &world{t, x}
}

// two is a world of two servers with the connection 1.
func two(t *testing.T, limit, wait int) *world {
	t.Helper()
	w := newWorld(t, pair(t), limit, wait)
	w.open(1)
	return w
}

// three is a world of three servers with the connection 1.
func three(t *testing.T, limit, wait int) *world {
	t.Helper()
	w := newWorld(t, trio(t), limit, wait)
	w.open(1)
	return w
}

// is: a call answers this error.
func (w *world) is(what string, got, must api.Errno) {
	w.t.Helper()
	if got != must {
		w.t.Fatalf("%s is %v, not %v", what, got, must)
	}
}

func (w *world) open(must int) {
	w.t.Helper()
	if n, e := w.r.Open(); n != must || e != api.OK {
		w.t.Fatalf("Open is %d, %v, not %d", n, e, must)
	}
}

func (w *world) close(conn int) {
	w.t.Helper()
	w.is("Close", w.r.Close(conn), api.OK)
}

func (w *world) feed(conn int, text string) {
	w.t.Helper()
	w.is(fmt.Sprintf("Feed(%d, %.100q)", conn, text), w.r.Feed(conn, []byte(lines(text))), api.OK)
}

func (w *world) got(server int, text string) {
	w.t.Helper()
	w.is(fmt.Sprintf("Got(%d, %.100q)", server, text), w.r.Got(server, []byte(lines(text))), api.OK)
}

func (w *world) down(server int) {
	w.t.Helper()
	w.is("Down", w.r.Down(server), api.OK)
}

func (w *world) up(server int) {
	w.t.Helper()
	w.is("Up", w.r.Up(server), api.OK)
}

func (w *world) tick(n int) {
	w.t.Helper()
	w.is("Tick", w.r.Tick(n), api.OK)
}

// back: a server that was down is up again.
func (w *world) back(server int) {
	w.t.Helper()
	w.up(server)
	w.sends(server, "flush_all|")
	w.got(server, "OK|")
}

// must is a list of outs, written as number and text by turns.
func outs(must []any) []api.Out {
	var l []api.Out
	for i := 0; i+1 < len(must); i += 2 {
		l = append(l, api.Out{To: must[i].(int), Bytes: []byte(lines(must[i+1].(string)))})
	}
	return l
}

// brief is a list of outs, for telling it.
func brief(l []api.Out) string {
	var b strings.Builder
	for _, o := range l {
		fmt.Fprintf(&b, "{%d, %.300q} ", o.To, o.Bytes)
	}
	return b.String()
}

// same: do two lists tell the same?
func same(a, b []api.Out) bool {
	if len(a) != len(b) {
		return false
	}
	for i := range a {
		if a[i].To != b[i].To || string(a[i].Bytes) != string(b[i].Bytes) {
			return false
		}
	}
	return true
}

// sends: just this is to go out to servers, written as number and text by turns.
func (w *world) sends(must ...any) {
	w.t.Helper()
	if got := w.r.Sends(); !same(got, outs(must)) {
		w.t.Fatalf("Sends tells %s, not %s", brief(got), brief(outs(must)))
	}
}

// tells: just this is told to connections, likewise.
func (w *world) tells(must ...any) {
	w.t.Helper()
	if got := w.r.Tells(); !same(got, outs(must)) {
		w.t.Fatalf("Tells tells %s, not %s", brief(got), brief(outs(must)))
	}
}

// What the router itself answers.
const (
	notHere  = "SERVER_ERROR not here|"
	tooLarge = "SERVER_ERROR object too large for cache|"
	isDown   = "SERVER_ERROR server is down|"
	isBusy   = "SERVER_ERROR server is busy|"
	someDid  = "SERVER_ERROR some servers did not answer|"
)

// full lets 1024 commands of the connection 1 wait for the server 0.
func (w *world) full() {
	w.t.Helper()
	w.feed(1, strings.Repeat("get a|", api.MaxFlying))
	w.sends(0, strings.Repeat("get a|", api.MaxFlying))
}
