package words_test

import (
	"strings"
	"testing"

	"granary/api"
)

func zeros(n int) string { return strings.Repeat("0", n) }

// P11.1: numbers with zeros ahead, at and one above each limit, and far above any.
func TestNumbers(t *testing.T) {
	for _, x := range []struct {
		line  string
		must  api.Command
		block int
	}{
		{"set a 0 0 0", verb(api.Set, "a"), 0},
		{"set a 4294967295 0 0", flags(verb(api.Set, "a"), 1<<32-1), 0},
		{"set a " + zeros(90) + "4294967295 0 0", flags(verb(api.Set, "a"), 1<<32-1), 0},
		{"set a " + zeros(500) + " 0 " + zeros(500), verb(api.Set, "a"), 0},
		{"set a 0 0 2147483647", verb(api.Set, "a"), 1<<31 - 1},
		{"set a 0 0 " + zeros(90) + "2147483647", verb(api.Set, "a"), 1<<31 - 1},
		{"ms a 2147483647", verb(api.MetaSet, "a"), 1<<31 - 1},
		{"ms a " + zeros(90) + "2147483647", verb(api.MetaSet, "a"), 1<<31 - 1},
		{"cas a 0 0 1 18446744073709551615", token(verb(api.Cas, "a"), 1<<64-1), 1},
		{"cas a 0 0 1 " + zeros(90) + "18446744073709551615", token(verb(api.Cas, "a"), 1<<64-1), 1},
		{"cas a 0 0 1 0", verb(api.Cas, "a"), 1},
		{"incr a 18446744073709551615", delta(verb(api.Incr, "a"), 1<<64-1), -1},
		{"decr a 0018446744073709551615", delta(verb(api.Decr, "a"), 1<<64-1), -1},
		{"decr a 0", verb(api.Decr, "a"), -1},
		{"verbosity 2147483647", verb(api.Verbosity), -1},
		{"verbosity " + zeros(90) + "2147483647", verb(api.Verbosity), -1},
		{"mg a R18446744073709551615", meta(verb(api.MetaGet, "a"), "R18446744073709551615"), -1},
		{"mg a R" + zeros(90), meta(verb(api.MetaGet, "a"), "R"+zeros(90)), -1},
	} {
		reads(t, x.line, x.must, x.block)
	}
	far := strings.Repeat("9", 1000)
	for _, x := range []struct {
		line string
		must api.Wrong
	}{
		{"set a 4294967296 0 1", client(badLine, 1)},
		{"set a 0000004294967296 0 1", client(badLine, 1)},
		{"set a 18446744073709551616 0 1", client(badLine, 1)},
		{"set a 18446744073709551617 0 1", client(badLine, 1)},
		{"set a " + far + " 0 1", client(badLine, 1)},
		{"set a 0 0 2147483648", client(badLine, -1)},
		{"set a 0 0 18446744073709551616", client(badLine, -1)},
		{"set a 0 0 18446744073709551617", client(badLine, -1)},
		{"set a 0 0 " + far, client(badLine, -1)},
		{"ms a 2147483648", client(badLine, -1)},
		{"ms a " + far, client(badLine, -1)},
		{"cas a 0 0 1 18446744073709551616", client(badLine, 1)},
		{"cas a 0 0 1 " + far, client(badLine, 1)},
		{"incr a 18446744073709551616", client(badDelta, -1)},
		{"decr a " + far, client(badDelta, -1)},
		{"verbosity 2147483648", client(badLine, -1)},
		{"verbosity " + far, client(badLine, -1)},
	} {
		refuses(t, x.line, x.must)
	}
}

// P11.1: times at their bounds, one beyond each, and far beyond; of flush_all none is below 0.
func TestTimes(t *testing.T) {
	lines := func(word string) []string {
		return []string{"touch a " + word, "gat " + word + " a", "gats " + word + " a", "set a 0 " + word + " 1", "cas a 0 " + word + " 1 0", "flush_all " + word}
	}
	told := []api.Command{verb(api.Touch, "a"), verb(api.Gat, "a"), verb(api.Gats, "a"), verb(api.Set, "a"), verb(api.Cas, "a"), verb(api.FlushAll)}
	blocks := []int{-1, -1, -1, 1, 1, -1}
	for word, must := range map[string]int{
		"0": 0, "-0": 0, "1": 1, "-1": -1, "2592000": 2592000, "2592001": 2592001, "007": 7, "-007": -7, zeros(99) + "7": 7,
		"9223372036854775807": greatest, "-9223372036854775808": least, "-9223372036854775807": -greatest,
		zeros(99) + "9223372036854775807": greatest, "-" + zeros(99) + "9223372036854775808": least,
	} {
		for i, line := range lines(word) {
			if told[i].Verb == api.FlushAll && must < 0 {
				refuses(t, line, client(badTime, -1))
			} else {
				reads(t, line, timed(told[i], must), blocks[i])
			}
		}
	}
	far := strings.Repeat("9", 1000)
	for _, word := range []string{"9223372036854775808", "-9223372036854775809", "18446744073709551615", "18446744073709551616", "-18446744073709551616", far, "-" + far, "-", "--0", "+0", "+1", "1-", "x", "noreply1"} {
		for i, line := range lines(word) {
			refuses(t, line, client(badTime, blocks[i]))
		}
	}
}

// P11.1: keys of MaxKey bytes and one more, and of every byte.
func TestKeys(t *testing.T) {
	lines := func(key string) []string {
		return []string{"get " + key, "gets " + key, "gat 0 " + key, "delete " + key, "incr " + key + " 0", "touch " + key + " 0", "set " + key + " 0 0 1", "cas " + key + " 0 0 1 0", "mg " + key, "ms " + key + " 1", "md " + key, "ma " + key}
	}
	verbs := []int{api.Get, api.Gets, api.Gat, api.Delete, api.Incr, api.Touch, api.Set, api.Cas, api.MetaGet, api.MetaSet, api.MetaDelete, api.MetaArith}
	blocks := []int{-1, -1, -1, -1, -1, -1, 1, 1, -1, 1, -1, -1}
	for i, line := range lines(many(250)) {
		reads(t, line, verb(verbs[i], many(250)), blocks[i])
	}
	for i, line := range lines(many(251)) {
		refuses(t, line, client(badLine, blocks[i]))
	}
	for b := range 256 {
		one := string([]byte{byte(b)})
		for _, key := range []string{one, "a" + one, one + "a", "a" + one + "a"} {
			switch {
			case b == 32:
				continue
			case b < 32 || b == 127:
				for i, line := range lines(key) {
					refuses(t, line, client(badLine, blocks[i]))
				}
			default:
				for i, line := range lines(key) {
					reads(t, line, verb(verbs[i], key), blocks[i])
				}
			}
		}
	}
	// Byte 32 stands in no key: it parts two.
	reads(t, "get a a", verb(api.Get, "a", "a"), -1)
	// Any of several may be the wrong one.
	for _, line := range []string{"get a b \x7f", "get a \x00 b", "gets \t", "gat 0 a " + many(251), "gats 0 " + many(251) + " a"} {
		refuses(t, line, client(badLine, -1))
	}
}

// P11.1: blanks say nothing, and blanks alone part words.
func TestBlanks(t *testing.T) {
	reads(t, "   get    a   b   ", verb(api.Get, "a", "b"), -1)
	reads(t, " set  a  1  2  3  noreply ", quiet(timed(flags(verb(api.Set, "a"), 1), 2)), 3)
	reads(t, " flush_all ", verb(api.FlushAll), -1)
	reads(t, "get a\xc2\xa0b", verb(api.Get, "a\xc2\xa0b"), -1)
	reads(t, "get \xe2\x80\x83", verb(api.Get, "\xe2\x80\x83"), -1)
	reads(t, "get \xff\xfe \x80", verb(api.Get, "\xff\xfe", "\x80"), -1)
	for _, b := range []string{"\t", "\v", "\f", "\r", "\n", "\x00", "\x85", "\xa0"} {
		refuses(t, "get"+b+"a", noVerb)
	}
	all(t, "  \r\n", 9, fails(noVerb, 0))
}

// P11.2: where noreply is the command's, and where it is a word like others.
func TestNoreply(t *testing.T) {
	reads(t, "set a 0 0 1 noreply", quiet(verb(api.Set, "a")), 1)
	reads(t, "set noreply 0 0 1 noreply", quiet(verb(api.Set, "noreply")), 1)
	reads(t, "set noreply 0 0 1", verb(api.Set, "noreply"), 1)
	reads(t, "cas noreply 0 0 1 2 noreply", quiet(token(verb(api.Cas, "noreply"), 2)), 1)
	reads(t, "delete noreply 0", verb(api.Delete, "noreply"), -1)
	reads(t, "delete noreply 0 noreply", quiet(verb(api.Delete, "noreply")), -1)
	reads(t, "incr noreply 1 noreply", quiet(delta(verb(api.Incr, "noreply"), 1)), -1)
	reads(t, "touch noreply 1", timed(verb(api.Touch, "noreply"), 1), -1)
	reads(t, "flush_all 0 noreply", quiet(verb(api.FlushAll)), -1)
	reads(t, "flush_all 5 noreply", quiet(timed(verb(api.FlushAll), 5)), -1)
	reads(t, "get noreply", verb(api.Get, "noreply"), -1)
	reads(t, "get a noreply", verb(api.Get, "a", "noreply"), -1)
	reads(t, "gats 0 a noreply", verb(api.Gats, "a", "noreply"), -1)
	reads(t, "mg noreply", verb(api.MetaGet, "noreply"), -1)
	for _, x := range []struct {
		line string
		must api.Wrong
	}{
		{"set a 0 0 noreply", client(badLine, -1)},
		{"set a 0 noreply", client(badLine, -1)},
		{"set noreply", client(badLine, -1)},
		{"set a 0 0 1 Noreply", client(badLine, 1)},
		{"set a 0 0 1 NOREPLY", client(badLine, 1)},
		{"set a 0 0 1 noreply x", client(badLine, 1)},
		{"set a 0 0 1 noreply noreply", client(badLine, 1)},
		{"set a 0 0 noreply noreply", client(badLine, -1)},
		{"cas a 0 0 1 noreply", client(badLine, 1)},
		{"cas a 0 0 noreply", client(badLine, -1)},
		{"cas a 0 0 1 noreply noreply", client(badLine, 1)},
		{"delete noreply noreply noreply", client(badLine, -1)},
		{"delete a 0 0 noreply", client(badLine, -1)},
		{"delete a noreply 0", client(badLine, -1)},
		{"incr a noreply", client(badDelta, -1)},
		{"incr a noreply noreply", client(badDelta, -1)},
		{"decr noreply", client(badLine, -1)},
		{"touch a noreply", client(badTime, -1)},
		{"touch noreply", client(badLine, -1)},
		{"touch noreply noreply", client(badTime, -1)},
		{"flush_all noreply noreply", client(badTime, -1)},
		{"flush_all noreply 5", client(badLine, -1)},
		{"verbosity noreply noreply", client(badLine, -1)},
		{"verbosity 1 noreply noreply", client(badLine, -1)},
		{"version noreply", client(badLine, -1)},
		{"quit noreply", client(badLine, -1)},
		{"stats noreply", client(badLine, -1)},
		{"mn noreply", client(badLine, -1)},
		{"mg a noreply", client(noFlag, -1)},
		{"ms a 2 noreply", client(noFlag, 2)},
		{"md a noreply", client(noFlag, -1)},
		{"ma a noreply", client(noFlag, -1)},
		{"noreply", noVerb},
	} {
		refuses(t, x.line, x.must)
	}
}

// P11.4: a Wrong's Pass is N's, where N is there and right, whatever else is wrong.
func TestPass(t *testing.T) {
	for _, x := range []struct {
		line string
		pass int
	}{
		{"set", -1}, {"set a", -1}, {"set a 0", -1}, {"set a 0 0", -1},
		{"set a x x 5", 5}, {"set \x7f 0 0 5", 5}, {"set " + many(251) + " 0 0 5", 5},
		{"set a x 0 0", 0}, {"set a x 0 007", 7}, {"set a x 0 2147483647", 2147483647}, {"set a x 0 2147483648", -1},
		{"set a x 0 -0", -1}, {"set a x 0 x 5", -1}, {"set a 0 0 5 6", 5}, {"set a 0 0 5 noreply 6", 5}, {"set a 0 0 5 6 noreply", 5},
		{"add a x 0 5", 5}, {"replace a x 0 5", 5}, {"append a x 0 5", 5}, {"prepend a x 0 5", 5},
		{"cas a 0 0 5", 5}, {"cas a 0 0 5 x", 5}, {"cas a 0 0 5 6 7", 5}, {"cas a 0 0", -1}, {"cas a 0 0 x 6", -1},
		{"ms", -1}, {"ms a", -1}, {"ms \x7f 5", 5}, {"ms \x7f x", -1}, {"ms a -5", -1},
		{"get a \x7f c 5", -1}, {"gat 0 a \x7f 5", -1}, {"delete a 0 0 5", -1}, {"verbosity 5 5 5 5", -1}, {"mg \x7f 5", -1}, {"md \x7f 5", -1}, {"ma \x7f 5", -1},
	} {
		refusesSo(t, x.line, x.pass)
	}
	refuses(t, "set a 0 x 5", client(badTime, 5))
	refuses(t, "ms a 5 z", client(noFlag, 5))
	refuses(t, "ms a 5 k k", client(twice, 5))
	refuses(t, "ms a 5 O", client(badOpaque, 5))
	refuses(t, "ms a 5 F", client(badToken, 5))
	refuses(t, "bogus a x 0 5", noVerb)
}

// refusesSo: a line is in bad form, with this Pass.
func refusesSo(t *testing.T, line string, pass int) {
	t.Helper()
	refuses(t, line, client(badLine, pass))
}

// P11.3, 1: lines of MaxLine bytes and one more.
func TestLong(t *testing.T) {
	full := "get " + strings.Repeat("k ", 1021) + "kk"
	keys := strings.Fields(full)[1:]
	reads(t, full, verb(api.Get, keys...), -1)
	refuses(t, full+"k", client(tooLong, -1))
	refuses(t, full+" ", client(tooLong, -1))
	blanks := strings.Repeat(" ", 2048)
	refuses(t, blanks, noVerb)
	refuses(t, blanks+" ", client(tooLong, -1))
	reads(t, "version"+blanks[:2041], verb(api.Version), -1)
	refuses(t, "version"+blanks[:2042], client(tooLong, -1))
	refuses(t, many(100000), client(tooLong, -1))
	// A line that is too long tells no Pass, and no block follows it.
	set := "set a x 0 1" + blanks[:2037]
	refuses(t, set, client(badLine, 1))
	refuses(t, set+" ", client(tooLong, -1))
	tells(t, set+" \r\nx\r\n", 9, 0, fails(client(tooLong, -1), 2051), fails(noVerb, 2054))

	// The end of a line is none of its bytes, but of two bytes 13 ahead of the 10 one is.
	all(t, full+"\n", 9, done(verb(api.Get, keys...), 0))
	all(t, full+"\r\n", 9, done(verb(api.Get, keys...), 0))
	all(t, full+"\r\r\n", 9, fails(client(tooLong, -1), 0))
	all(t, many(2047)+"\r\r\n", 9, fails(noVerb, 0))
	all(t, full+"k\n", 9, fails(client(tooLong, -1), 0))
	all(t, full+"k\r\n", 9, fails(client(tooLong, -1), 0))
	tells(t, many(5000), 9, 5000)
}
