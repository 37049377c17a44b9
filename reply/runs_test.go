package reply_test

import (
	"testing"

	"granary/api"
	"granary/reply"
)

// The chapter's table 'Runs', row by row.
func TestRuns(t *testing.T) {
	get, gets := cmd(api.Get, "a"), cmd(api.Gets, "a")

	reads(t, get, "END\r\n", values(), 5)
	wants(t, get, "EN")
	wants(t, get, "")
	bad(t, get, "END\n")

	reads(t, get, "VALUE a 0 5\r\nEND\r\n\r\nEND\r\n", values(entry("a", "END\r\n")), 25)

	bad(t, get, "VALUE b")
	bad(t, get, "VALUE a 00")
	bad(t, get, "VALUE a 0 1\r\nxy")
	bad(t, get, "VALUE a 4294967296")

	bad(t, cmd(api.Get, "a", "b"), "VALUE b 0 1\r\nx\r\nVALUE a")
	reads(t, cmd(api.Get, "a", "a"), "VALUE a 0 1\r\nx\r\nVALUE a 0 1\r\ny\r\nEND\r\n", values(entry("a", "x"), entry("a", "y")), 37)

	wants(t, get, "VALUE a 0 1048576")
	bad(t, get, "VALUE a 0 1048577")

	reads(t, gets, "VALUE a 0 1 7\r\nx\r\nEND\r\n", values(token(entry("a", "x"), 7)), 23)
	bad(t, gets, "VALUE a 0 1\r")

	bad(t, get, "ST")
	wants(t, get, "S")
	reads(t, get, "SERVER_ERROR out of memory storing object\r\n", refused("SERVER_ERROR out of memory storing object"), 43)
}

// The rest of the same table.
func TestMoreRuns(t *testing.T) {
	set, incr, mg, mn := cmd(api.Set, "a"), cmd(api.Incr, "n"), cmd(api.MetaGet, "a"), cmd(api.MetaNoop)

	bad(t, incr, "007\r\n")
	bad(t, incr, "18446744073709551616")
	wants(t, incr, "12")
	reads(t, incr, "12\r\n", number(12), 4)

	reads(t, set, "STORED\r\nSTORED\r\n", kind(api.Stored), 8)
	bad(t, set, "EXISTS\r\n")
	wants(t, quiet(set), "anything")

	for v := 1; v <= verbs; v++ {
		for _, raw := range []string{"CLIENT_ERROR \r\n", "CLIENT_ERROR  x", "SERVER_ERROR x \r\n", "ERRORS"} {
			if v != api.Quit {
				bad(t, cmd(v, "a"), raw)
			}
		}
	}

	reads(t, mg, "VA 2 W\r\nhi\r\n", block("VA 2 W", "hi"), 12)
	reads(t, mg, "HD\r\n", meta("HD"), 4)
	for _, raw := range []string{"EN x", "HD  k", "NF", "VA 02", "VA 1 W\r\nhi"} {
		bad(t, mg, raw)
	}

	reads(t, cmd(api.Stats), "STAT a 1\r\nEND\r\n", stats(stat("a", 1)), 15)
	bad(t, cmd(api.Stats), "RESET\r\n")
	reads(t, cmd(api.Stats), "END\r\n", stats(), 5)
	reads(t, what("reset"), "RESET\r\n", kind(api.Reset), 7)

	reads(t, mn, "MN\r\n", meta("MN"), 4)
	bad(t, mn, "MN x")

	unfit(t, set, kind(api.Deleted))
	unfit(t, cmd(api.Get, "a"), values(entry("b", "")))
	unfit(t, cmd(api.Version), told(""))

	tells(t, api.Wrong{Kind: api.WClient, Text: "line too long", Pass: -1}, "CLIENT_ERROR line too long\r\n")
	tells(t, api.Wrong{Kind: 3, Text: "x"}, "")
}

// The chapter's examples.
func TestExamples(t *testing.T) {
	fits(t, cmd(api.Gets, "a"), values(token(flags(entry("a", "x"), 5), 1)), "VALUE a 5 1 1\r\nx\r\nEND\r\n")
	fits(t, cmd(api.Version), told("granary 1"), "VERSION granary 1\r\n")
	fits(t, cmd(api.Quit), kind(api.Nothing), "")
	gone := quiet(cmd(api.Delete, "a"))
	if b, e := reply.Bytes(gone, kind(api.Deleted)); len(b) != 0 || e != api.OK {
		t.Errorf("delete a, Noreply: %q, %v", b, e)
	}
	if b, e := reply.Bytes(gone, kind(api.Stored)); len(b) != 0 || e != api.ErrForm {
		t.Errorf("delete a, Noreply, and Stored: %q, %v", b, e)
	}
}

// tells: this is told of a wrong line.
func tells(t *testing.T, w api.Wrong, must string) {
	t.Helper()
	if b := reply.Wrong(w); string(b) != must {
		t.Errorf("Wrong of %d, %.80q, %d is %.200q, not %.200q", w.Kind, w.Text, w.Pass, b, must)
	}
}

// P13.3: every kind, with a text and without, as it stands, wherever the block is.
func TestWrong(t *testing.T) {
	for _, text := range []string{"", "x", " x ", "bad data chunk", "a\r\nb\x00\xff", many(5000)} {
		for _, pass := range []int{least, -1, 0, 7, greatest} {
			tells(t, api.Wrong{Kind: api.WError, Text: text, Pass: pass}, "ERROR\r\n")
			tells(t, api.Wrong{Kind: api.WClient, Text: text, Pass: pass}, "CLIENT_ERROR "+text+"\r\n")
			for _, k := range []int{least, -1, 0, 3, 4, greatest} {
				tells(t, api.Wrong{Kind: k, Text: text, Pass: pass}, "")
			}
		}
	}
}
