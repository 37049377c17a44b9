package words_test

import (
	"reflect"
	"strings"
	"testing"

	"granary/api"
	"granary/words"
)

// What is told of a line or a block that is wrong.
const (
	badLine   = "bad command line format"
	badTime   = "invalid exptime argument"
	badDelta  = "invalid numeric delta argument"
	badBlock  = "bad data chunk"
	tooLong   = "line too long"
	noFlag    = "invalid flag"
	twice     = "duplicate flag"
	badOpaque = "opaque token too long"
	badToken  = "bad token in command line format"
)

const (
	least    = -1 << 63
	greatest = 1<<63 - 1
)

// noVerb is what is told of a line that begins with no verb.
var noVerb = api.Wrong{Kind: api.WError, Pass: -1}

func client(text string, pass int) api.Wrong {
	return api.Wrong{Kind: api.WClient, Text: text, Pass: pass}
}

func verb(verb int, keys ...string) api.Command { return api.Command{Verb: verb, Keys: keys} }

func quiet(c api.Command) api.Command { c.Noreply = true; return c }

func large(c api.Command) api.Command { c.Large = true; return c }

func data(c api.Command, block string) api.Command { c.Data = []byte(block); return c }

func timed(c api.Command, t int) api.Command { c.Exptime = t; return c }

func flags(c api.Command, n uint64) api.Command { c.Flags = n; return c }

func token(c api.Command, n uint64) api.Command { c.Token = n; return c }

func delta(c api.Command, n uint64) api.Command { c.Delta = n; return c }

func what(c api.Command, w string) api.Command { c.What = w; return c }

// meta gives a command flags, each written as its word.
func meta(c api.Command, words ...string) api.Command {
	for _, w := range words {
		c.Meta = append(c.Meta, api.Flag{Letter: w[0], Arg: w[1:], Has: len(w) > 1})
	}
	return c
}

// done is a step with a command, up to a place.
func done(c api.Command, to int) api.Step { return api.Step{Command: c, To: to} }

// fails is a step with a wrong line or block, up to a place.
func fails(w api.Wrong, to int) api.Step { return api.Step{Wrong: w, To: to} }

// plain makes nil and empty lists one.
func plain(c api.Command) api.Command {
	if len(c.Keys) == 0 {
		c.Keys = nil
	}
	if len(c.Data) == 0 {
		c.Data = nil
	}
	if len(c.Meta) == 0 {
		c.Meta = nil
	}
	return c
}

func sameCommand(a, b api.Command) bool { return reflect.DeepEqual(plain(a), plain(b)) }

func sameStep(a, b api.Step) bool {
	return sameCommand(a.Command, b.Command) && a.Wrong == b.Wrong && a.From == b.From && a.To == b.To
}

func sameSteps(a, b []api.Step) bool {
	if len(a) != len(b) {
		return false
	}
	for i := range a {
		if !sameStep(a[i], b[i]) {
			return false
		}
	}
	return true
}

// tells: All tells these steps, each from the end of the one ahead of it, and leaves so many bytes.
func tells(t *testing.T, raw string, limit, left int, must ...api.Step) {
	t.Helper()
	at := 0
	for i := range must {
		must[i].From = at
		at = must[i].To
	}
	got, rest := words.All([]byte(raw), limit)
	if !sameSteps(got, must) || rest != left {
		t.Errorf("All(%.80q, %d) is %.300v and %d, not %.300v and %d", raw, limit, got, rest, must, left)
	}
}

// all: All tells just one step of these bytes.
func all(t *testing.T, raw string, limit int, must api.Step) {
	t.Helper()
	must.To = len(raw)
	tells(t, raw, limit, 0, must)
}

// reads: a line is this command, with a block of so many bytes.
func reads(t *testing.T, line string, must api.Command, block int) {
	t.Helper()
	c, n, w := words.Line([]byte(line))
	if !sameCommand(c, must) || n != block || w != (api.Wrong{}) {
		t.Errorf("Line(%.80q) is %.200v, %d, %v, not %.200v, %d", line, c, n, w, must, block)
	}
}

// refuses: a line is wrong, and this is told of it.
func refuses(t *testing.T, line string, must api.Wrong) {
	t.Helper()
	c, n, w := words.Line([]byte(line))
	if w != must || n != -1 || !reflect.DeepEqual(c, api.Command{}) {
		t.Errorf("Line(%.80q) is %.200v, %d, %v, not %v", line, c, n, w, must)
	}
}

// writes: a command is written down so, and read back from there.
func writes(t *testing.T, c api.Command, must string) {
	t.Helper()
	b, e := words.Bytes(c)
	if string(b) != must || e != api.OK {
		t.Errorf("Bytes(%.200v) is %.80q, %v, not %.80q", c, b, e, must)
	}
	all(t, must, len(c.Data), done(c, 0))
}

// noForm: a command can't be written down.
func noForm(t *testing.T, c api.Command) {
	t.Helper()
	if b, e := words.Bytes(c); len(b) != 0 || e != api.ErrForm {
		t.Errorf("Bytes(%.200v) is %.80q, %v", c, b, e)
	}
}

func many(n int) string { return strings.Repeat("k", n) }
