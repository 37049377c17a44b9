package client_test

import (
	"fmt"
	"reflect"
	"strings"
	"testing"

	"granary/api"
	"granary/client"
	"granary/reply"
	"granary/words"
)

const (
	least    = -1 << 63
	greatest = 1<<63 - 1
)

// verbs is how many there are: from 1 on.
const verbs = 24

func cmd(verb int, keys ...string) api.Command { return api.Command{Verb: verb, Keys: keys} }

func get(keys ...string) api.Command { return cmd(api.Get, keys...) }

func set(key string) api.Command { return data(cmd(api.Set, key), "x") }

func data(m api.Command, block string) api.Command { m.Data = []byte(block); return m }

func quiet(m api.Command) api.Command { m.Noreply = true; return m }

func what(w string) api.Command { return api.Command{Verb: api.Stats, What: w} }

func flagged(m api.Command, letters string) api.Command {
	for _, l := range []byte(letters) {
		m.Meta = append(m.Meta, api.Flag{Letter: l})
	}
	return m
}

func kind(kind int) api.Answer { return api.Answer{Kind: kind} }

func values(l ...api.Entry) api.Answer { return api.Answer{Kind: api.Values, Entries: l} }

func entry(key, value string) api.Entry { return api.Entry{Key: key, Value: []byte(value)} }

func refused(text string) api.Answer { return api.Answer{Kind: api.Refused, Text: text} }

// Ends, as a client must tell them.

func ok(seq int, a api.Answer) api.Done { return api.Done{Seq: seq, Answer: a} }

func late(seq int) api.Done { return api.Done{Seq: seq, Err: api.ErrTimeout} }

func closed(seq int) api.Done { return api.Done{Seq: seq, Err: api.ErrClosed} }

func garbled(seq int) api.Done { return api.Done{Seq: seq, Err: api.ErrGarbled} }

// miss is the end of a get without a hit.
func miss(seq int) api.Done { return ok(seq, values()) }

// lines writes the end of each line, which stands as | in the tests.
func lines(text string) string { return strings.ReplaceAll(text, "|", "\r\n") }

// plainly makes nil and empty lists one.
func plainly(a api.Answer) api.Answer {
	a.Entries = append([]api.Entry(nil), a.Entries...)
	for i, e := range a.Entries {
		a.Entries[i].Value = append([]byte(nil), e.Value...)
	}
	a.Stats = append([]api.StatLine(nil), a.Stats...)
	return a
}

// same: do two lists tell the same ends?
func same(a, b []api.Done) bool {
	if len(a) != len(b) {
		return false
	}
	for i := range a {
		if a[i].Seq != b[i].Seq || a[i].Err != b[i].Err || !reflect.DeepEqual(plainly(a[i].Answer), plainly(b[i].Answer)) {
			return false
		}
	}
	return true
}

// brief is the beginning of some ends, for telling them.
func brief(l []api.Done) string {
	return fmt.Sprintf("%d: %.400s", len(l), fmt.Sprintf("%+v", l))
}

// ends: just these, in this order.
func ends(t *testing.T, got []api.Done, must ...api.Done) {
	t.Helper()
	if !same(got, must) {
		t.Errorf("the ends are %s, not %s", brief(got), brief(must))
	}
}

// sends: a Send is taken, has this number, and tells these bytes.
func sends(t *testing.T, c *client.Client, m api.Command, number int, text string) {
	t.Helper()
	if n, b, e := c.Send(m); n != number || string(b) != lines(text) || e != api.OK {
		t.Errorf("Send(%.200v) is %d, %.200q, %v, not %d, %.200q", m, n, b, e, number, lines(text))
	}
}

// sent sends a command that must be taken, and tells its number.
func sent(t *testing.T, c *client.Client, m api.Command) int {
	t.Helper()
	must, _ := words.Bytes(m)
	n, b, e := c.Send(m)
	if n < 1 || string(b) != string(must) || e != api.OK {
		t.Fatalf("Send(%.200v) is %d, %.200q, %v", m, n, b, e)
	}
	return n
}

// refuses: a Send is refused so.
func refuses(t *testing.T, c *client.Client, m api.Command, must api.Errno) {
	t.Helper()
	if n, b, e := c.Send(m); n != 0 || len(b) != 0 || e != must {
		t.Errorf("Send(%.200v) is %d, %.200q, %v, not %v", m, n, b, e, must)
	}
}

// takes: these bytes end just these commands.
func takes(t *testing.T, c *client.Client, text string, must ...api.Done) {
	t.Helper()
	if got := c.Take([]byte(lines(text))); !same(got, must) {
		t.Errorf("Take(%.200q) tells %s, not %s", lines(text), brief(got), brief(must))
	}
}

// ticks: that many ticks end just these commands.
func ticks(t *testing.T, c *client.Client, by int, must ...api.Done) {
	t.Helper()
	if got := c.Tick(by); !same(got, must) {
		t.Errorf("Tick(%d) tells %s, not %s", by, brief(got), brief(must))
	}
}

// reopens: another stream begins, and these bytes are told.
func reopens(t *testing.T, c *client.Client, text string) {
	t.Helper()
	if b, e := c.Reopen(); string(b) != lines(text) || e != api.OK {
		t.Errorf("Reopen is %.200q, %v, not %.200q", b, e, lines(text))
	}
}

// busy: no other stream begins.
func busy(t *testing.T, c *client.Client) {
	t.Helper()
	if b, e := c.Reopen(); len(b) != 0 || e != api.ErrBusy {
		t.Errorf("Reopen is %.200q, %v, not ErrBusy", b, e)
	}
}

// stands: so many fly, and the stream takes commands or not.
func stands(t *testing.T, c *client.Client, flying int, live bool) {
	t.Helper()
	if c.Flying() != flying || c.Live() != live {
		t.Errorf("Flying is %d and Live %v, not %d and %v", c.Flying(), c.Live(), flying, live)
	}
}

// A sample is a command with what it is written as, and an answer of each kind that it may be given.
type sample struct {
	m       api.Command
	text    string
	answers []api.Answer
	reads   bool // it only reads
}

// samples has every verb, but for quit.
func samples() []sample {
	meta := func(text string) api.Answer { return api.Answer{Kind: api.Meta, Text: text} }
	block := func(text, value string) api.Answer {
		return api.Answer{Kind: api.Meta, Text: text, Entries: []api.Entry{{Value: []byte(value)}}}
	}
	hit := api.Entry{Key: "b", Value: []byte("END\r\n"), Flags: 7}
	held := api.Entry{Key: "b", Value: []byte("STORED\r\n"), Flags: 7, Token: 99}
	list := []sample{
		{get("a", "b"), "get a b|", []api.Answer{values(), values(hit), values(entry("a", ""), hit)}, true},
		{cmd(api.Gets, "a", "b"), "gets a b|", []api.Answer{values(), values(held)}, true},
		{api.Command{Verb: api.Gat, Keys: []string{"a", "b"}, Exptime: 9}, "gat 9 a b|", []api.Answer{values(), values(hit)}, false},
		{api.Command{Verb: api.Gats, Keys: []string{"a", "b"}, Exptime: -9}, "gats -9 a b|", []api.Answer{values(), values(held)}, false},
		{api.Command{Verb: api.Set, Keys: []string{"a"}, Flags: 5, Exptime: 6, Data: []byte("get b\r\n")}, "set a 5 6 7|get b||", []api.Answer{kind(api.Stored), kind(api.NotStored)}, false},
		{set("a"), "set a 0 0 1|x|", []api.Answer{kind(api.Stored)}, false},
		{api.Command{Verb: api.Cas, Keys: []string{"a"}, Token: 8, Data: []byte("x")}, "cas a 0 0 1 8|x|", []api.Answer{kind(api.Stored), kind(api.Exists), kind(api.NotFound)}, false},
		{cmd(api.Delete, "a"), "delete a|", []api.Answer{kind(api.Deleted), kind(api.NotFound)}, false},
		{api.Command{Verb: api.Incr, Keys: []string{"a"}, Delta: 3}, "incr a 3|", []api.Answer{{Kind: api.Number, Number: 12}, kind(api.NotFound)}, false},
		{api.Command{Verb: api.Decr, Keys: []string{"a"}, Delta: 3}, "decr a 3|", []api.Answer{{Kind: api.Number}, kind(api.NotFound)}, false},
		{api.Command{Verb: api.Touch, Keys: []string{"a"}, Exptime: 4}, "touch a 4|", []api.Answer{kind(api.Touched), kind(api.NotFound)}, false},
		{cmd(api.FlushAll), "flush_all|", []api.Answer{kind(api.Fine)}, false},
		{cmd(api.Version), "version|", []api.Answer{{Kind: api.Told, Text: "granary 1"}}, true},
		{cmd(api.Verbosity), "verbosity 1|", []api.Answer{kind(api.Fine)}, false},
		{what(""), "stats|", []api.Answer{kind(api.Stat), {Kind: api.Stat, Stats: []api.StatLine{{Name: "END", Value: 1}, {Name: "b", Value: 2}}}}, true},
		{what("reset"), "stats reset|", []api.Answer{kind(api.Reset)}, false},
		{flagged(cmd(api.MetaGet, "a"), "vk"), "mg a v k|", []api.Answer{meta("EN"), meta("HD ka"), block("VA 4 ka W", "EN\r\n")}, false},
		{data(cmd(api.MetaSet, "a"), "x"), "ms a 1|x|", []api.Answer{meta("HD"), meta("NS"), meta("EX"), meta("NF")}, false},
		{cmd(api.MetaDelete, "a"), "md a|", []api.Answer{meta("HD"), meta("EX"), meta("NF")}, false},
		{cmd(api.MetaArith, "a"), "ma a|", []api.Answer{meta("HD"), block("VA 1", "7"), meta("NF")}, false},
		{cmd(api.MetaNoop), "mn|", []api.Answer{meta("MN")}, false},
	}
	for i, verb := range []string{"add", "replace", "append", "prepend"} {
		list = append(list, sample{data(cmd(api.Add+i, "a"), ""), verb + " a 0 0 0||", []api.Answer{kind(api.Stored), kind(api.NotStored)}, false})
	}
	for i := range list {
		list[i].answers = append(list[i].answers, refused("ERROR"), refused("SERVER_ERROR out of memory storing object"))
	}
	return list
}

// bytesOf is what a server tells of a command that is answered so.
func bytesOf(t *testing.T, m api.Command, a api.Answer) string {
	t.Helper()
	b, e := reply.Bytes(m, a)
	if e != api.OK || len(b) == 0 {
		t.Fatalf("verb %d has no reply %v", m.Verb, a)
	}
	return string(b)
}

// The samples themselves: every verb has some, and they are written as they say.
func TestSamples(t *testing.T) {
	seen := map[int]int{api.Quit: 1}
	for _, s := range samples() {
		seen[s.m.Verb]++
		sends(t, client.New(0), s.m, 1, s.text)
		for _, a := range s.answers {
			bytesOf(t, s.m, a)
		}
	}
	for v := 1; v <= verbs; v++ {
		if seen[v] == 0 {
			t.Errorf("verb %d has no sample", v)
		}
	}
}
