package reply_test

import (
	"strconv"
	"strings"
	"testing"

	"granary/api"
	"granary/reply"
)

// getters are the verbs of values.
func getters() []int { return []int{api.Get, api.Gets, api.Gat, api.Gats} }

func withToken(v int) bool { return v == api.Gets || v == api.Gats }

// laid are entries as they must be written.
func laid(v int, l ...api.Entry) string {
	var out []string
	for _, e := range l {
		out = append(out, "VALUE "+e.Key+" "+strconv.FormatUint(e.Flags, 10)+" "+strconv.Itoa(len(e.Value)))
		if withToken(v) {
			out = append(out, " "+strconv.FormatUint(e.Token, 10))
		}
		out = append(out, "\r\n"+string(e.Value)+"\r\n")
	}
	return strings.Join(append(out, "END\r\n"), "")
}

// theseFit: entries of these keys fit a command of those.
func theseFit(t *testing.T, keys, told string) {
	t.Helper()
	for _, v := range getters() {
		var l []api.Entry
		for i, k := range strings.Fields(told) {
			l = append(l, token(flags(entry(k, many(i)), uint64(i)), uint64(i*7)))
		}
		fits(t, cmd(v, strings.Fields(keys)...), values(l...), laid(v, l...))
	}
}

// theseDont: nor are they read; the last one is wrong at its key.
func theseDont(t *testing.T, keys, told string) {
	t.Helper()
	for _, v := range getters() {
		var l []api.Entry
		for _, k := range strings.Fields(told) {
			l = append(l, entry(k, ""))
		}
		c := cmd(v, strings.Fields(keys)...)
		unfit(t, c, values(l...))
		bad(t, c, laid(v, l...))
		bad(t, c, strings.TrimSuffix(laid(v, l[:len(l)-1]...), "END\r\n")+"VALUE "+l[len(l)-1].Key+" ")
	}
}

// P13.1: keys in their order, some left out, and keys that stand several times.
func TestKeysInOrder(t *testing.T) {
	for _, told := range []string{"", "a", "b", "c", "a b", "a c", "b c", "a b c"} {
		theseFit(t, "a b c", told)
	}
	for _, told := range []string{"b a", "c a", "c b", "a c b", "b a c", "c b a", "a a", "b b", "a b b", "a b c c", "a b c a", "d", "a d", "A", "aa", "a b c d"} {
		theseDont(t, "a b c", told)
	}
	for _, told := range []string{"", "a", "b", "a a", "a b", "b a", "a b a"} {
		theseFit(t, "a b a", told)
	}
	for _, told := range []string{"b b", "a a a", "b a b", "a b a a", "a a b", "b a a"} {
		theseDont(t, "a b a", told)
	}
	// The first place must be taken, and no more than one for each.
	theseFit(t, "a b a b a", "a b b")
	theseFit(t, "a b a b a", "b a a")
	theseFit(t, "a b a b a", "a a b a")
	theseDont(t, "a b a b a", "b b b")
	theseDont(t, "a b a b a", "a a b b")
	theseDont(t, "", "a")
	// Keys of which one begins another one.
	theseFit(t, "a ab abc", "a ab abc")
	theseFit(t, "abc ab a", "ab a")
	theseDont(t, "abc ab a", "a ab")
	theseDont(t, "abc abd", "ab")
	theseDont(t, "a", "ab")
}

// More is wanted just while one of the keys that may come begins so.
func TestKeyBegun(t *testing.T) {
	c := cmd(api.Get, "abc", "b", "abd")
	for _, raw := range []string{"V", "VALUE", "VALUE ", "VALUE a", "VALUE ab", "VALUE abc", "VALUE abd", "VALUE b", "VALUE abd ", "VALUE b "} {
		wants(t, c, raw)
		wants(t, c, "VALUE abc 0 1\r\nx\r\n"+strings.Replace(raw, "abc", "abd", 1))
	}
	wants(t, c, "VALUE b 0 1\r\nx\r\nVALUE abd")
	for _, raw := range []string{"VALUE  ", "VALUE\r", "VALUE c", "VALUE ac", "VALUE abe", "VALUE ab ", "VALUE b\r", "VALUE bb", "VALUE abcd", "Value a", "VALUES"} {
		bad(t, c, raw)
	}
	bad(t, c, "VALUE b 0 1\r\nx\r\nVALUE abc")
	bad(t, c, "VALUE abd 0 1\r\nx\r\nV")
	bad(t, cmd(api.Get), "V")
	bad(t, c, "VALUE abd 0 1\r\nx\r\nER")
	bad(t, c, "VALUE b 0 1\r\nx\r\nER")
	bad(t, c, "VALUE b 0 1\r\nx\r\nS")
	bad(t, c, "VALUE b 0 1\r\nx\r\nC")
}

// P13.1: keys of 0, 1, MaxKey and MaxKey + 1 bytes, and bytes that a key may not have.
func TestLegalKeys(t *testing.T) {
	for _, v := range getters() {
		for _, k := range []string{"a", "!", "~", "\x80", "\xff", "END", "VALUE", many(249), many(250)} {
			fits(t, cmd(v, k), values(entry(k, "x")), laid(v, entry(k, "x")))
			fits(t, cmd(v, "", "b c", k, many(251)), values(entry(k, "x")), laid(v, entry(k, "x")))
		}
		for _, k := range []string{"", " ", "a b", " a", "a ", "a 0 1\r\nx\r\nEND\r\n", "\r", "\n", "a\r", "a\n", "\x00", "a\x1f", "\x7f", "a\x7fb", many(251), many(252), many(5000)} {
			for _, c := range []api.Command{cmd(v, k), cmd(v, k, k, k)} {
				unfit(t, c, values(entry(k, "x")))
				bad(t, c, "V")
				bad(t, c, laid(v, entry(k, "x")))
				fits(t, c, values(), "END\r\n")
			}
			c := cmd(v, "z", k)
			unfit(t, c, values(entry("z", "x"), entry(k, "x")))
			wants(t, c, "V")
			bad(t, c, "VALUE "+k+" 0")
			bad(t, c, strings.TrimSuffix(laid(v, entry("z", "x")), "END\r\n")+"V")
		}
		for b := range 256 {
			k := "a" + string([]byte{byte(b)})
			if b > 32 && b != 127 {
				fits(t, cmd(v, k), values(entry(k, "")), laid(v, entry(k, "")))
			} else {
				unfit(t, cmd(v, k), values(entry(k, "")))
			}
		}
	}
}

// P13.1: Flags up to MaxFlags; tokens are any, where they are told, and not looked at elsewhere.
func TestFlagsAndTokens(t *testing.T) {
	for _, v := range getters() {
		c := cmd(v, "a")
		for _, n := range []uint64{0, 1, 9, 10, 4294967294, 4294967295} {
			e := flags(entry("a", "x"), n)
			fits(t, c, values(e), laid(v, e))
		}
		for _, n := range []uint64{4294967296, 9999999999, api.MaxNumber} {
			e := flags(entry("a", "x"), n)
			unfit(t, c, values(e))
			bad(t, c, "VALUE a "+strconv.FormatUint(n, 10))
			bad(t, c, laid(v, e))
		}
		for _, n := range []uint64{0, 1, 10, api.MaxNumber} {
			e := token(entry("a", "x"), n)
			fits(t, c, values(e), laid(v, e))
		}
		e := api.Entry{Key: "a", Value: []byte("x"), Expiry: -5, Touched: 7, Stale: true, Won: true, Hit: true, Token: 8}
		fits(t, c, values(e), laid(v, e))
	}
}

// P13.1: values of 0, 1 and MaxPage bytes and one more, whatever they are.
func TestValues(t *testing.T) {
	for _, v := range getters() {
		c := cmd(v, "a")
		for _, value := range []string{"", "x", "\r\n", "\n", "END\r\n", "\x00\xff", "VALUE a 0 1\r\nx\r\nEND\r\n"} {
			e := entry("a", value)
			fits(t, c, values(e), laid(v, e))
			fits(t, cmd(v, "a", "a"), values(e, e), laid(v, e, e))
		}
		great := entry("a", strings.Repeat("\r\n", 1<<19))
		fits(t, c, values(great), laid(v, great))
		greater := entry("a", many(1<<20+1))
		unfit(t, c, values(greater))
		bad(t, c, laid(v, greater))
		bad(t, c, "VALUE a 0 1048577")
		bad(t, c, "VALUE a 0 10000000")
	}
}

// lineOf are the words of VALUE a, for a verb: the token, if it has one, is 5.
func lineOf(v int, flags, length string) string {
	if withToken(v) {
		return "VALUE a " + flags + " " + length + " 5"
	}
	return "VALUE a " + flags + " " + length
}

// P13.4: what stands in a line of values, and where a block ends.
func TestEntryLines(t *testing.T) {
	for _, v := range getters() {
		c := cmd(v, "a")
		for _, raw := range []string{
			lineOf(v, "00", "1"), lineOf(v, "01", "1"), lineOf(v, "0", "01"), lineOf(v, "0", "00"), lineOf(v, "", "1"), lineOf(v, "0", "") + "x", lineOf(v, " 0", "1"), lineOf(v, "0", " 1"),
			lineOf(v, "-1", "1"), lineOf(v, "+1", "1"), lineOf(v, "0", "-1"), lineOf(v, "x", "1"), lineOf(v, "0", "x"), lineOf(v, "0x1", "1"), lineOf(v, "0", "1x"), lineOf(v, "0", "1\t"),
			lineOf(v, "0", "1") + " ", lineOf(v, "0", "1") + "\n", lineOf(v, "0", "1") + "\r\r", lineOf(v, "0", "1") + "x", lineOf(v, "0", "1") + " 5",
			lineOf(v, "0", "1") + "\r\nxy", lineOf(v, "0", "1") + "\r\nx\n", lineOf(v, "0", "1") + "\r\nx\rx", lineOf(v, "0", "1") + "\r\nx\r\nx", lineOf(v, "0", "1") + "\r\nx\r\nEND\n", lineOf(v, "0", "1") + "\r\nx\r\nEND ",
			lineOf(v, "0", "0") + "\r\nEND\r\n",
		} {
			bad(t, c, raw)
		}
	}
	gets := cmd(api.Gets, "a")
	bad(t, gets, "VALUE a 0 1\r")
	bad(t, gets, "VALUE a 0 1 \r")
	bad(t, gets, "VALUE a 0 1 05")
	bad(t, gets, "VALUE a 0 1 18446744073709551616")
	bad(t, gets, "VALUE a 0 1 99999999999999999999")
	bad(t, gets, "VALUE a 0 1 5 ")
	wants(t, gets, "VALUE a 0 1 18446744073709551615")
	wants(t, gets, "VALUE a 0 1 ")
	bad(t, cmd(api.Get, "a"), "VALUE a 0 1 ")
}

// A great row of entries is read in its order, in a short time.
func TestManyEntries(t *testing.T) {
	var keys []string
	var l []api.Entry
	for i := range 20000 {
		k := "k" + strconv.Itoa(i%7)
		keys = append(keys, k, "no key", "x")
		l = append(l, entry(k, strconv.Itoa(i)))
	}
	c := cmd(api.Get, keys...)
	b, e := reply.Bytes(c, values(l...))
	if string(b) != laid(api.Get, l...) || e != api.OK {
		t.Fatal("many entries are written otherwise")
	}
	reads(t, c, string(b)+"END\r\n", values(l...), len(b))
	wants(t, c, string(b[:len(b)-1]))
}
