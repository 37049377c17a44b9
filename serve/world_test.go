package serve_test

import (
	"bytes"
	"fmt"
	"reflect"
	"slices"
	"strconv"
	"strings"
	"testing"

	"granary/api"
	"granary/serve"
)

// The names of the numbers that stats tells, in their order.
const names = `cmd_get cmd_set cmd_touch cmd_flush cmd_meta get_hits
	get_misses get_expired get_flushed delete_hits delete_misses incr_hits
	incr_misses decr_hits decr_misses cas_hits cas_badval cas_misses
	touch_hits touch_misses evictions reclaimed refused total_items
	curr_items bytes total_connections curr_connections crawled bad_lines`

// What is told of lines that are wrong, and of what is refused; CR LF is written |.
const (
	badLine  = "CLIENT_ERROR bad command line format|"
	badTime  = "CLIENT_ERROR invalid exptime argument|"
	badDelta = "CLIENT_ERROR invalid numeric delta argument|"
	badBlock = "CLIENT_ERROR bad data chunk|"
	tooLong  = "CLIENT_ERROR line too long|"
	noNumber = "CLIENT_ERROR cannot increment or decrement non-numeric value|"
	tooLarge = "SERVER_ERROR object too large for cache|"
	noRoom   = "SERVER_ERROR out of memory storing object|"
)

// small has classes of 64, 128 and 256 bytes; 64, 32 and 16 a page.
func small() api.Config {
	return api.Config{PageSize: 4096, Pages: 4, Factor: 200, MinChunk: 64, ItemLimit: 256, Hot: 30, Warm: 30}
}

// wide has the same classes, and more room than any script here fills.
func wide() api.Config {
	c := small()
	c.PageSize, c.Pages = 1<<16, 32
	return c
}

func usual() api.Pace { return api.Pace{Buckets: 8, Links: 3, Crawl: 4} }

// slow is a pace without a crawler behind commands.
func slow() api.Pace { return api.Pace{Buckets: 8, Links: 3} }

// lines writes the end of each line, which stands as | in the chapter.
func lines(text string) string { return strings.ReplaceAll(text, "|", "\r\n") }

func many(n int) string { return strings.Repeat("q", n) }

func digits(n int) string { return strconv.Itoa(n) }

func opening() api.Event { return api.Event{Kind: api.Open} }

func closing(conn int) api.Event { return api.Event{Kind: api.Close, Conn: conn} }

func chunk(conn int, text string) api.Event {
	return api.Event{Kind: api.Chunk, Conn: conn, Bytes: []byte(lines(text))}
}

func tick(n int) api.Event { return api.Event{Kind: api.Tick, N: n} }

// paced is a server with connections from 1 on.
func paced(t *testing.T, c api.Config, p api.Pace, conns int) *serve.Server {
	t.Helper()
	s, e := serve.Paced(c, p)
	if e != api.OK || s == nil {
		t.Fatalf("Paced(%v, %v): %v", c, p, e)
	}
	for n := range conns {
		opens(t, s, n+1)
	}
	return s
}

func opened(t *testing.T, conns int) *serve.Server {
	t.Helper()
	s, e := serve.New(small())
	if e != api.OK || s == nil {
		t.Fatalf("New(%v): %v", small(), e)
	}
	for n := range conns {
		opens(t, s, n+1)
	}
	return s
}

// opens: is a connection of that number opened?
func opens(t *testing.T, s *serve.Server, n int) {
	t.Helper()
	must := []byte{0, byte(n >> 16), byte(n >> 8), byte(n)}
	if got, no := s.Do(opening()); no != api.OK || !bytes.Equal(got, must) {
		t.Errorf("an Open is told %v, %v, not %v", got, no, must)
	}
}

// does: is an event answered so? CR LF is written | in what must be.
func does(t *testing.T, s *serve.Server, e api.Event, must string) {
	t.Helper()
	if got, no := s.Do(e); no != api.OK || string(got) != lines(must) {
		t.Errorf("%.200q on %d is told %.400q, %v, not %.400q", e.Bytes, e.Conn, got, no, lines(must))
	}
}

// told: are chunks of a connection answered so? They stand as pairs: a chunk, and its answer.
func told(t *testing.T, s *serve.Server, conn int, pairs ...string) {
	t.Helper()
	for i := 0; i < len(pairs); i += 2 {
		does(t, s, chunk(conn, pairs[i]), pairs[i+1])
	}
}

// refuses: is an event refused with that error, and without bytes?
func refuses(t *testing.T, s *serve.Server, e api.Event, must api.Errno) {
	t.Helper()
	if got, no := s.Do(e); no != must || len(got) != 0 {
		t.Errorf("%.200v: %q, %v, not %v", e, got, no, must)
	}
}

// conns: are just these open?
func conns(t *testing.T, s *serve.Server, must ...int) {
	t.Helper()
	if got := s.Conns(); !slices.Equal(got, must) {
		t.Errorf("Conns: %v, not %v", got, must)
	}
}

// read asks a connection for stats, and looks whether all lines are there, in their order.
func read(t *testing.T, s *serve.Server, conn int) map[string]uint64 {
	t.Helper()
	b, no := s.Do(chunk(conn, "stats|"))
	text, ended := strings.CutSuffix(string(b), "END\r\n")
	if no != api.OK || !ended {
		t.Fatalf("stats is told %q, %v", b, no)
	}
	all := map[string]uint64{}
	for _, name := range strings.Fields(names) {
		line, rest, _ := strings.Cut(text, "\r\n")
		digits, ok := strings.CutPrefix(line, "STAT "+name+" ")
		n, err := strconv.ParseUint(digits, 10, 64)
		if !ok || err != nil || strconv.FormatUint(n, 10) != digits {
			t.Fatalf("stats has %q in the place of %s", line, name)
		}
		all[name], text = n, rest
	}
	if text != "" {
		t.Fatalf("stats has %q behind its lines", text)
	}
	return all
}

// sums are numbers that a text says: words, each with its number behind it, or with none for 1.
func sums(text string) map[string]uint64 {
	all := map[string]uint64{}
	for _, name := range strings.Fields(names) {
		all[name] = 0
	}
	last := ""
	for _, w := range strings.Fields(text) {
		if n, err := strconv.ParseUint(w, 10, 64); err == nil {
			all[last] = n
			continue
		}
		if _, ok := all[w]; !ok {
			panic(w + " is no name")
		}
		last, all[w] = w, 1
	}
	return all
}

// differ tells in which names two rows of numbers are unlike.
func differ(got, must map[string]uint64) string {
	text := ""
	for _, name := range strings.Fields(names) {
		if got[name] != must[name] {
			text += fmt.Sprintf(" %s %d, not %d;", name, got[name], must[name])
		}
	}
	return text
}

// counts: does stats tell these numbers, and zero of all others? Asked on connection 1. Of crawled, which hangs on the pace, it is not asked.
func counts(t *testing.T, s *serve.Server, must string) {
	t.Helper()
	got, want := read(t, s, 1), sums(must)
	got["crawled"] = 0
	if text := differ(got, want); text != "" {
		t.Errorf("stats tells%s", text)
	}
}

// adds: do chunks of connection 1, on a server that some were sent to, add just these numbers?
func adds(t *testing.T, ahead, text, must string) {
	t.Helper()
	s := paced(t, small(), slow(), 1)
	if ahead != "" {
		s.Do(chunk(1, ahead))
	}
	was := read(t, s, 1)
	for _, name := range []string{"curr_items", "bytes", "curr_connections"} {
		was[name] = 0
	}
	s.Do(chunk(1, text))
	got := read(t, s, 1)
	for _, name := range []string{"curr_items", "bytes", "curr_connections"} {
		got[name] = 0
	}
	want := sums(must)
	for name, n := range was {
		want[name] += n
	}
	if text2 := differ(got, want); text2 != "" {
		t.Errorf("%.80q behind %.80q: stats tells%s", text, ahead, text2)
	}
}

// answer is what an event was told.
type answer struct {
	bytes string
	no    api.Errno
}

func (a answer) String() string { return fmt.Sprintf("%.900q, %v", a.bytes, a.no) }

// answers does a script, event by event.
func answers(s *serve.Server, script []api.Event) (all []answer) {
	for _, e := range script {
		b, no := s.Do(e)
		all = append(all, answer{string(b), no})
	}
	return all
}

// sight is all that a server tells beside events.
type sight struct {
	Conns, Holds []int
	Now          int
}

func sightOf(s *serve.Server) sight {
	v := sight{Conns: slices.Clone(s.Conns()), Now: s.Now()}
	for _, conn := range v.Conns {
		v.Holds = append(v.Holds, s.Holds(conn))
	}
	return v
}

// alike: do two servers tell the same, and the same of what comes behind?
func alike(t *testing.T, what string, got, must *serve.Server, behind ...api.Event) {
	t.Helper()
	if g, m := sightOf(got), sightOf(must); !reflect.DeepEqual(g, m) {
		t.Errorf("%s: %v, not %v", what, g, m)
	}
	g, m := answers(got, behind), answers(must, behind)
	for i := range g {
		if g[i] != m[i] {
			t.Errorf("%s: behind it %.80q is told %v, not %v", what, behind[i].Bytes, g[i], m[i])
		}
	}
}

// spare is a row of bytes with room behind it, which is filled.
func spare(text []byte) []byte {
	return append(bytes.Clone(text), "!!!!!!!!!!!!!!!!"...)[:len(text)]
}
