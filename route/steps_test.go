package route_test

import (
	"strings"
	"testing"
)

// P21.5: a wrong line or block is told what reply.Wrong says of it, at once.
func TestWrong(t *testing.T) {
	for text, must := range map[string]string{
		"bogus|":                                "ERROR|",
		"|":                                     "ERROR|",
		"GET a|":                                "ERROR|",
		"get|":                                  "CLIENT_ERROR bad command line format|",
		"set a 0 0 1|xy|":                       "CLIENT_ERROR bad data chunk|",
		"set a 0 0 1 noreply|xy|":               "CLIENT_ERROR bad data chunk|",
		"set a x 0 1 noreply|y|":                "CLIENT_ERROR bad command line format|",
		"set a 0 0 -1|":                         "CLIENT_ERROR bad command line format|",
		"touch a x|":                            "CLIENT_ERROR invalid exptime argument|",
		"incr a x|":                             "CLIENT_ERROR invalid numeric delta argument|",
		"mg a z|":                               "CLIENT_ERROR invalid flag|",
		"mg a q q|":                             "CLIENT_ERROR duplicate flag|",
		"mg a v1|":                              "CLIENT_ERROR bad token in command line format|",
		"stats items|":                          "CLIENT_ERROR bad command line format|",
		"flush_all -1|":                         "CLIENT_ERROR invalid exptime argument|",
		strings.Repeat("x", 2049) + "|":         "CLIENT_ERROR line too long|",
		"get " + strings.Repeat("a", 251) + "|": "CLIENT_ERROR bad command line format|",
	} {
		w := two(t, 8, 0)
		w.feed(1, text)
		w.sends()
		w.tells(1, must)
		w.tells()
	}
}

// P21.5: what the router answers itself, whatever its servers are.
func TestOwnAnswers(t *testing.T) {
	for text, must := range map[string]string{
		"version|":                   "VERSION granary 1|",
		"verbosity 1|":               "OK|",
		"verbosity 7|":               "OK|",
		"mn|":                        "MN|",
		"stats|":                     notHere,
		"stats reset|":               notHere,
		"mg a q|":                    notHere,
		"mg a v q k|":                notHere,
		"ms a 1 q|x|":                notHere,
		"ms a 9 q|123456789|":        notHere,
		"md a q|":                    notHere,
		"ma a q|":                    notHere,
		"append a 0 0 9|123456789|":  tooLarge,
		"prepend a 0 0 9|123456789|": tooLarge,
	} {
		w := two(t, 8, 0)
		w.feed(1, text)
		w.sends()
		w.tells(1, must)
		w.down(0)
		w.down(1)
		w.feed(1, text)
		w.sends()
		w.tells(1, must)
	}
}

// P21.5: of these with noreply nothing is told, and nothing is sent.
func TestOwnAnswersNoreply(t *testing.T) {
	for _, text := range []string{"verbosity 1 noreply|", "append a 0 0 9 noreply|123456789|", "prepend a 0 0 9 noreply|123456789|"} {
		w := two(t, 8, 0)
		w.feed(1, text)
		w.sends()
		w.tells()
		w.feed(1, text+"mn|")
		w.tells(1, "MN|")
	}
}

// A sample is a command of one key, a, what it is sent as, and replies that it may have.
type sample struct {
	text, sent string
	replies    []string
}

// samples are all commands that go to one server.
func samples() []sample {
	l := []sample{
		{"set a 5 6 4|x|y|", "", []string{"STORED|", "NOT_STORED|"}},
		{"cas a 5 -6 1 18446744073709551615|x|", "", []string{"STORED|", "EXISTS|", "NOT_FOUND|"}},
		{"delete a|", "", []string{"DELETED|", "NOT_FOUND|"}},
		{"delete a 0|", "delete a|", []string{"DELETED|", "NOT_FOUND|"}},
		{"incr a 007|", "incr a 7|", []string{"12|", "NOT_FOUND|", "CLIENT_ERROR cannot increment or decrement non-numeric value|"}},
		{"decr a 18446744073709551615|", "", []string{"0|", "18446744073709551615|", "NOT_FOUND|"}},
		{"touch  a   -4 |", "touch a -4|", []string{"TOUCHED|", "NOT_FOUND|"}},
		{"mg a v k Oxy|", "", []string{"EN|", "HD ka Oxy|", "VA 4 ka W|EN||"}},
		{"mg a|", "", []string{"EN|", "HD|", "HD X Z|"}},
		{"ms a 4 T30 c|x|y|", "", []string{"HD c8|", "NS|", "EX|", "NF|"}},
		{"md a I C7|", "", []string{"HD|", "EX|", "NF|"}},
		{"ma a v N0 J5|", "", []string{"HD|", "VA 1|7|", "NF|", "NS|", "EX|"}},
	}
	for _, verb := range []string{"add", "replace", "append", "prepend"} {
		l = append(l, sample{verb + " a 4294967295 0 0||", "", []string{"STORED|", "NOT_STORED|"}})
	}
	for i := range l {
		if l[i].sent == "" {
			l[i].sent = l[i].text
		}
		l[i].replies = append(l[i].replies, "ERROR|", "SERVER_ERROR out of memory storing object|", "CLIENT_ERROR x|")
	}
	return l
}

// silent is what is told, if nobody answers.
func (s sample) silent() string {
	if strings.HasPrefix(s.text, "mg ") {
		return "EN|"
	}
	return isDown
}

// P21.5: any other command goes to its key's server, as it stands, and is told what that answers, as it stands.
func TestSingle(t *testing.T) {
	for _, s := range samples() {
		for _, reply := range s.replies {
			w := two(t, 100, 0)
			w.feed(1, s.text)
			w.sends(0, s.sent)
			w.tells()
			w.got(1, "")
			w.tells()
			w.got(0, reply)
			w.tells(1, reply)
			w.tells()
			w.sends()
		}
	}
}

// P21.7: of a server that does not answer a command is told a miss or that it is down: one that is down already, that goes down, that is garbled, that is too late, that is coming.
func TestSingleUnanswered(t *testing.T) {
	for _, s := range samples() {
		w := two(t, 100, 5)
		w.down(0)
		w.feed(1, s.text)
		w.sends()
		w.tells(1, s.silent())
		w.up(0)
		w.feed(1, s.text)
		w.sends(0, "flush_all|")
		w.tells(1, s.silent())
		w.got(0, "OK|")

		for _, fall := range []func(){func() { w.down(0) }, func() { w.got(0, "VALUES|") }, func() { w.tick(5) }} {
			w.feed(1, s.text)
			w.sends(0, s.sent)
			w.tells()
			fall()
			w.tells(1, s.silent())
			w.back(0)
		}
	}
}

// P21.7: a command for which the client has no place was answered so; nothing is sent.
func TestSingleBusy(t *testing.T) {
	for _, s := range samples() {
		w := two(t, 100, 5)
		w.open(2)
		w.full()
		w.feed(2, s.text)
		w.sends()
		w.tells(2, isBusy)
		w.got(0, "END|")
		w.tells(1, "END|")
		w.feed(2, s.text)
		w.sends(0, s.sent)
		w.tells()
	}
}

// P21.5, P21.7: with noreply a command goes out so, and nothing is told of it, whatever becomes of it.
func TestSingleNoreply(t *testing.T) {
	for _, text := range []string{"set a 5 6 1 noreply|x|", "add a 0 0 0 noreply||", "replace a 0 0 0 noreply||", "append a 0 0 0 noreply||", "prepend a 0 0 0 noreply||", "cas a 0 0 1 7 noreply|x|", "delete a noreply|", "incr a 1 noreply|", "decr a 1 noreply|", "touch a 1 noreply|"} {
		w := two(t, 100, 5)
		w.feed(1, text+"mn|")
		w.sends(0, text)
		w.tells(1, "MN|")
		w.tick(9)
		w.feed(1, "get a|")
		w.sends(0, "get a|")
		w.got(0, "END|")
		w.tells(1, "END|")

		w.full()
		w.feed(1, text)
		w.sends()
		w.down(0)
		w.tells(1, strings.Repeat("END|", 1024))
		w.feed(1, text)
		w.sends()
		w.tells()
		w.up(0)
		w.feed(1, text)
		w.sends(0, "flush_all|")
		w.tells()
	}
}
