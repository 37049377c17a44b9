package route_test

import (
	"strings"
	"testing"

	"granary/api"
	"granary/ring"
)

// P21.6: each server is asked for its own keys, in their order, with the same verb and time.
func TestParts(t *testing.T) {
	for _, verb := range []string{"get", "gets", "gat 9", "gats -9", "gat 0", "gats -9223372036854775808"} {
		w := three(t, 8, 0)
		w.feed(1, verb+" f b a e d c b|")
		w.sends(0, verb+" a d|", 1, verb+" b e b|", 2, verb+" f c|")
		w.feed(1, verb+" c|")
		w.sends(2, verb+" c|")
		w.feed(1, verb+" e d|")
		w.sends(0, verb+" d|", 1, verb+" e|")
	}
}

// P21.6: the entries are told in the order of the keys, with what the verb tells of them.
func TestJoined(t *testing.T) {
	for verb, token := range map[string]string{"get": "", "gets": " 7", "gat 1": "", "gats 1": " 7"} {
		value := func(key, flags, value string) string {
			return "VALUE " + key + " " + flags + " 5" + token + "|" + value + "|"
		}
		w := three(t, 8, 0)
		w.feed(1, verb+" f b a e d c|")
		b := value("b", "1", "END|")
		w.got(1, b[:10])
		w.tells()
		w.got(1, b[10:]+value("e", "2", "eeeee")+"END|")
		w.got(0, value("a", "4294967295", "aaaaa")+value("d", "4", "ddddd")+"END|")
		w.tells()
		w.got(2, value("f", "5", "fffff")+value("c", "6", "ccccc")+"END|")
		w.tells(1, value("f", "5", "fffff")+b+value("a", "4294967295", "aaaaa")+value("e", "2", "eeeee")+value("d", "4", "ddddd")+value("c", "6", "ccccc")+"END|")
	}
}

// P21.6: keys that stand several times: an entry is told where it may stand first.
func TestTwins(t *testing.T) {
	w := two(t, 8, 0)
	w.feed(1, "get a b a c a b|")
	w.sends(0, "get a a c a|", 1, "get b b|")
	w.got(0, "VALUE a 1 0||VALUE c 2 0||VALUE a 3 0||END|")
	w.got(1, "VALUE b 4 0||END|")
	w.tells(1, "VALUE a 1 0||VALUE b 4 0||VALUE c 2 0||VALUE a 3 0||END|")

	w.feed(1, "get a b a|")
	w.got(0, "VALUE a 1 0||VALUE a 2 0||END|")
	w.got(1, "VALUE b 3 0||END|")
	w.tells(1, "VALUE a 1 0||VALUE b 3 0||VALUE a 2 0||END|")

	// The key c stands ahead of the last a, and there is none of it.
	w.feed(1, "get a c a|")
	w.got(0, "VALUE c 1 0||VALUE a 2 0||END|")
	w.tells(1, "VALUE c 1 0||VALUE a 2 0||END|")
}

// P21.6: what is no Values is told, of several that of the least number, when all have ended.
func TestRefusedParts(t *testing.T) {
	w := three(t, 8, 0)
	w.feed(1, "get c b a|")
	w.got(2, "SERVER_ERROR two|")
	w.got(1, "CLIENT_ERROR one|")
	w.tells()
	w.got(0, "VALUE a 0 1|x|END|")
	w.tells(1, "CLIENT_ERROR one|")

	w.feed(1, "get c b a|")
	w.got(0, "ERROR|")
	w.got(2, "END|")
	w.tells()
	w.got(1, "SERVER_ERROR one|")
	w.tells(1, "ERROR|")

	w.feed(1, "gats 1 c b a|")
	w.got(2, "SERVER_ERROR two|")
	w.down(0)
	w.tells()
	w.down(1)
	w.tells(1, "SERVER_ERROR two|")
}

// P21.6: of a part that was not answered every key is a miss: of a server that is down or coming, goes down, is garbled, is too late.
func TestUnansweredParts(t *testing.T) {
	w := three(t, 8, 5)
	w.down(0)
	w.down(1)
	w.up(1)
	w.sends(1, "flush_all|")
	w.feed(1, "get a b c d e f|")
	w.sends(2, "get c f|")
	w.tells()
	w.got(2, "VALUE f 0 1|x|END|")
	w.tells(1, "VALUE f 0 1|x|END|")
	w.got(1, "OK|")
	for _, fall := range []func(){func() { w.down(1) }, func() { w.got(1, "VALUE b 0 1|x|VALUE f") }, func() { w.tick(5) }} {
		w.feed(1, "get f e b c|")
		w.sends(1, "get e b|", 2, "get f c|")
		w.got(2, "VALUE c 0 1|x|END|")
		w.tells()
		fall()
		w.tells(1, "VALUE c 0 1|x|END|")
		w.back(1)
	}
	for n := range 3 {
		w.down(n)
	}
	w.feed(1, "get a|gets a b c|gat 1 b|gats 1 c a|")
	w.sends()
	w.tells(1, "END|END|END|END|")
}

// P21.7: a part for which its client has no place was answered, and by no Values.
func TestBusyPart(t *testing.T) {
	w := two(t, 8, 0)
	w.open(2)
	w.full()
	w.feed(2, "get b a|")
	w.sends(1, "get b|")
	w.tells()
	w.got(1, "VALUE b 0 1|x|END|")
	w.tells(2, isBusy)
	w.feed(2, "gets a c|")
	w.sends()
	w.tells(2, isBusy)
}

// P21.6: values of all lengths up to a page's.
func TestGreatValues(t *testing.T) {
	w := two(t, 8, 0)
	great := strings.Repeat("v", api.MaxPage)
	w.feed(1, "get a b|")
	w.got(0, "VALUE a 0 1048576|"+great+"|END|")
	w.got(1, "VALUE b 0 0||END|")
	w.tells(1, "VALUE a 0 1048576|"+great+"|VALUE b 0 0||END|")
}

// Keys of any bytes, the line's whole length full of them, over many servers: each key goes to its owner, and comes back in its place.
func TestManyServers(t *testing.T) {
	var l []api.Server
	for i := range api.MaxServers {
		l = append(l, api.Server{Name: string(rune('a'+i%26)) + string(rune('a'+i/26)), Weight: 1 + i%8})
	}
	r, e := ring.Of(l...)
	if e != api.OK {
		t.Fatal(e)
	}
	w := newWorld(t, r, 8, 0)
	w.open(1)
	line, told := "get", ""
	parts := make([][]string, api.MaxServers)
	for i := 0; len(line)+5 <= api.MaxLine; i++ {
		key := string([]byte{byte(128 + i%128), byte(33 + i%90), byte(200 + i/90)})
		n, _ := r.Owner([]byte(key))
		line += " " + key
		parts[n] = append(parts[n], key)
		told += "VALUE " + key + " 0 0||"
	}
	w.feed(1, line+"|")
	var must []any
	for n, keys := range parts {
		if len(keys) > 0 {
			must = append(must, n, "get "+strings.Join(keys, " ")+"|")
		}
	}
	if len(must) < 200 {
		t.Fatalf("the keys are %d servers' only", len(must)/2)
	}
	w.sends(must...)
	for n := len(parts) - 1; n >= 0; n-- {
		if len(parts[n]) > 0 {
			w.tells()
			w.got(n, "VALUE "+strings.Join(parts[n], " 0 0||VALUE ")+" 0 0||END|")
		}
	}
	w.tells(1, told+"END|")
}
