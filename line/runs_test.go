package line_test

import (
	"slices"
	"strings"
	"testing"

	"granary/api"
	"granary/line"
	"granary/words"
)

// The table 'Runs': lines and blocks.
func TestRuns(t *testing.T) {
	f := line.New(9)
	feeds(t, f, "get a", 5)
	feeds(t, f, "\r", 6)
	feeds(t, f, "\n", 0, get("a", 0, 7))

	f = line.New(9)
	feeds(t, f, "set a 0 0 1|", 13)
	feeds(t, f, "x", 14)
	feeds(t, f, "\r", 15)
	feeds(t, f, "\n", 0, set("x", 0, 16))

	f = line.New(9)
	feeds(t, f, "set a 0 0 3|abc", 16)
	feeds(t, f, "d", 0)
	feeds(t, f, "e", 0)
	feeds(t, f, "\n", 0, fails(client(badBlock, -1), 0, 19))
	feeds(t, f, "version|", 0, done(verb(api.Version), 19, 28))

	f = line.New(9)
	feeds(t, f, "set a 0 0 3|abc", 16)
	feeds(t, f, "\r", 17)
	feeds(t, f, "d", 0)

	f = line.New(2)
	feeds(t, f, "set a 0 0 3|ab", 0)
	feeds(t, f, "c|get a|", 0, done(large(verb(api.Set, "a")), 0, 18), get("a", 18, 25))

	f = line.New(9)
	feeds(t, f, "set a x 0 3|ab", 0)
	feeds(t, f, "cd", 0)
	feeds(t, f, "\n", 0, fails(client(badLine, 3), 0, 18))

	for _, limit := range []int{0, -5, least} {
		f = line.New(limit)
		feeds(t, f, "set a 0 0 0|", 13)
		feeds(t, f, "|", 0, set("", 0, 15))
	}
}

// The table 'Runs': long lines and quit.
func TestRunsOfLongLines(t *testing.T) {
	f := line.New(9)
	for i := 1; i <= 50; i++ {
		held := 100 * i
		if i > 20 {
			held = 0
		}
		feeds(t, f, many(100), held)
	}
	feeds(t, f, "\n", 0, fails(client(tooLong, -1), 0, 5001))

	f = line.New(9)
	feeds(t, f, many(2048), 2048)
	feeds(t, f, "\r", 2049)
	feeds(t, f, "\n", 0, fails(noVerb, 0, 2050))
	f = line.New(9)
	feeds(t, f, wide("get a", 2048), 2048)
	feeds(t, f, "\r", 2049)
	feeds(t, f, "\n", 0, get("a", 0, 2050))
	f = line.New(9)
	feeds(t, f, many(2048), 2048)
	feeds(t, f, "\r", 2049)
	feeds(t, f, "x", 0)
	feeds(t, f, "\n", 0, fails(client(tooLong, -1), 0, 2051))

	f = line.New(9)
	feeds(t, f, "quit|get a|", 0, done(verb(api.Quit), 0, 6))
	feeds(t, f, "get b|", 0)
	if !f.Ended() || f.Taken() != 20 {
		t.Error("behind a quit:", f.Ended(), f.Taken())
	}
}

// whole is all that the ten examples of the document send.
var whole = []string{
	"set a 5 0 1|x|get a|", "gets a|", "cas a 5 0 1 1|y|", "cas a 5 0 1 1|y|", "incr n 1|", "set n 0 0 2|99|incr n 1|", "bogus|get a|",
	"set a 0 0 3|abcd|get a|", "set b 0 1 1|z|", "get b|", "get a", "|", "set a 0 0 300|" + strings.Repeat("v", 300) + "|", "get a|",
	"set c 0 0 1 noreply|q|get c|quit|get c|",
}

// The examples: one Feed, every byte a chunk, no bytes.
func TestExamples(t *testing.T) {
	raw := []byte(lines(strings.Join(whole, "")))
	must, _ := words.All(raw, 256)
	var told []int
	for _, s := range must {
		told = append(told, s.Command.Verb-100*s.Wrong.Kind)
	}
	verbs := []int{api.Set, api.Get, api.Gets, api.Cas, api.Cas, api.Incr, api.Set, api.Incr, -100 * api.WError, api.Get, -100 * api.WClient, api.Get, api.Set, api.Get, api.Get, api.Set, api.Get, api.Set, api.Get, api.Quit}
	if !slices.Equal(told, verbs) || !must[15].Command.Large || must[19].To != len(raw)-7 {
		t.Fatal(must)
	}
	f := line.New(256)
	if got := f.Feed(raw); !sameSteps(got, must) || !f.Ended() || f.Held() != 0 || f.Taken() != len(raw) {
		t.Error("in one Feed:", got)
	}
	var each []api.Step
	f = line.New(256)
	for i := range raw {
		each = append(each, f.Feed(raw[i:i+1])...)
		if len(f.Feed(nil)) != 0 || len(f.Feed([]byte{})) != 0 || f.Taken() != i+1 {
			t.Error("no bytes tell something, or are counted")
		}
	}
	if !sameSteps(each, must) || !f.Ended() {
		t.Error("byte by byte:", each)
	}
	each = nil
	f = line.New(256)
	for _, chunk := range whole {
		each = append(each, f.Feed([]byte(lines(chunk)))...)
	}
	if !sameSteps(each, must) {
		t.Error("in the examples' chunks:", each)
	}
	newRow(string(raw), 256).everyCut(t)
}

// P12.1: a Feeder to which nothing was fed.
func TestNew(t *testing.T) {
	for _, limit := range []int{least, -1, 0, 1, 1024, greatest} {
		f := line.New(limit)
		if f == nil || f.Held() != 0 || f.Ended() || f.Taken() != 0 {
			t.Error("limit", limit, "gives", f)
		}
		feeds(t, f, "", 0)
		if len(f.Feed(nil)) != 0 || f.Held() != 0 || f.Ended() || f.Taken() != 0 {
			t.Error("no bytes change it")
		}
	}
}
