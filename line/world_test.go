package line_test

import (
	"bytes"
	"reflect"
	"strings"
	"testing"

	"granary/api"
	"granary/line"
	"granary/words"
)

// What is told of a line or a block that is wrong.
const (
	badLine  = "bad command line format"
	badTime  = "invalid exptime argument"
	badBlock = "bad data chunk"
	tooLong  = "line too long"
)

const (
	least    = -1 << 63
	greatest = 1<<63 - 1
)

// noVerb is what is told of a line that begins with no verb.
var noVerb = api.Wrong{Kind: api.WError, Pass: -1}

func client(text string, pass int) api.Wrong {
	return api.Wrong{Kind: api.WClient, Text: text, Pass: pass}
}

func verb(verb int, keys ...string) api.Command { return api.Command{Verb: verb, Keys: keys} }

func data(c api.Command, block string) api.Command { c.Data = []byte(block); return c }

func large(c api.Command) api.Command { c.Large = true; return c }

// done is a step with a command, and its place.
func done(c api.Command, from, to int) api.Step { return api.Step{Command: c, From: from, To: to} }

// fails is a step with a wrong line or block, and its place.
func fails(w api.Wrong, from, to int) api.Step { return api.Step{Wrong: w, From: from, To: to} }

func get(key string, from, to int) api.Step { return done(verb(api.Get, key), from, to) }

func set(block string, from, to int) api.Step { return done(data(verb(api.Set, "a"), block), from, to) }

// lines writes the end of each line, which stands as | in the chapter.
func lines(text string) string { return strings.ReplaceAll(text, "|", "\r\n") }

func many(n int) string { return strings.Repeat("k", n) }

// wide is a line with blanks ahead of it, of so many bytes in all.
func wide(text string, n int) string { return strings.Repeat(" ", n-len(text)) + text }

// plain makes nil and empty lists one.
func plain(s api.Step) api.Step {
	if len(s.Command.Keys) == 0 {
		s.Command.Keys = nil
	}
	if len(s.Command.Data) == 0 {
		s.Command.Data = nil
	}
	if len(s.Command.Meta) == 0 {
		s.Command.Meta = nil
	}
	return s
}

func sameSteps(a, b []api.Step) bool {
	if len(a) != len(b) {
		return false
	}
	for i := range a {
		if !reflect.DeepEqual(plain(a[i]), plain(b[i])) {
			return false
		}
	}
	return true
}

// feeds: a chunk makes a Feeder tell these steps, and keep so many bytes.
func feeds(t *testing.T, f *line.Feeder, chunk string, held int, must ...api.Step) {
	t.Helper()
	chunk = lines(chunk)
	ended, taken := f.Ended(), f.Taken()+len(chunk)
	for _, s := range must {
		ended = ended || s.Command.Verb == api.Quit
	}
	if got := f.Feed([]byte(chunk)); !sameSteps(got, must) {
		t.Errorf("Feed(%.80q) tells %.300v, not %.300v", chunk, got, must)
	}
	if f.Held() != held || f.Ended() != ended || f.Taken() != taken {
		t.Errorf("behind %.80q: held %d, ended %v, taken %d, not %d, %v, %d", chunk, f.Held(), f.Ended(), f.Taken(), held, ended, taken)
	}
}

// fed is a Feeder to which this was fed, and which told nothing of it.
func fed(t *testing.T, limit int, chunk string, held int) *line.Feeder {
	t.Helper()
	f := line.New(limit)
	feeds(t, f, chunk, held)
	return f
}

// A seen is what a Feeder must tell behind some bytes: how many steps in all, how many bytes are held, whether there was a quit.
type seen struct {
	steps, held int
	ended       bool
}

// look is what must be seen behind these bytes, by the chapter's words: everything from the beginning, each time anew.
func look(raw []byte, limit int) ([]api.Step, seen) {
	steps, left := words.All(raw, limit)
	if n := len(steps); n > 0 && steps[n-1].Command.Verb == api.Quit {
		return steps, seen{n, 0, true}
	}
	return steps, seen{len(steps), kept(raw[len(raw)-left:], max(limit, 0)), false}
}

// kept is how many bytes of the rest are kept: none in each of the four cases.
func kept(rest []byte, limit int) int {
	begun, behind, whole := bytes.Cut(rest, []byte{10})
	if !whole {
		if len(rest) > 2048+1 || len(rest) == 2048+1 && rest[2048] != 13 {
			return 0
		}
		return len(rest)
	}
	_, n, w := words.Line(bytes.TrimSuffix(begun, []byte{13}))
	if w.Kind != 0 || n > limit {
		return 0
	}
	if len(behind) > n && behind[n] != 13 || len(behind) > n+1 && behind[n+1] != 10 {
		return 0
	}
	return len(rest)
}

// A row is some bytes, with what must be seen behind each of their beginnings.
type row struct {
	raw   []byte
	limit int
	steps []api.Step
	seen  []seen
}

func newRow(raw string, limit int) row {
	r := row{raw: []byte(raw), limit: limit}
	for at := range len(raw) + 1 {
		var s seen
		r.steps, s = look(r.raw[:at], limit)
		r.seen = append(r.seen, s)
	}
	return r
}

// cut feeds a row in chunks that end at these places, and at its end, and holds what is told behind each against what must be.
func (r row) cut(t *testing.T, places ...int) {
	t.Helper()
	f := line.New(r.limit)
	at := 0
	for _, to := range append(places, len(r.raw)) {
		got := f.Feed(r.raw[at:to])
		must := r.steps[r.seen[at].steps:r.seen[to].steps]
		if !sameSteps(got, must) {
			t.Fatalf("limit %d, %.300q cut at %v: %d to %d tell %.300v, not %.300v", r.limit, r.raw, places, at, to, got, must)
		}
		if s := r.seen[to]; f.Held() != s.held || f.Ended() != s.ended || f.Taken() != to {
			t.Fatalf("limit %d, %.300q cut at %v: behind %d held %d, ended %v, taken %d, not %v", r.limit, r.raw, places, to, f.Held(), f.Ended(), f.Taken(), s)
		}
		at = to
	}
}

// everyCut feeds a row whole, byte by byte, with no bytes between, and cut in two at every place.
func (r row) everyCut(t *testing.T) {
	t.Helper()
	var each, twice []int
	for at := range len(r.raw) + 1 {
		each = append(each, at)
		twice = append(twice, at, at)
	}
	r.cut(t)
	r.cut(t, each...)
	r.cut(t, twice...)
	for at := range r.raw {
		r.cut(t, at)
	}
}
