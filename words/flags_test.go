package words_test

import (
	"strings"
	"testing"

	"granary/api"
	"granary/words"
)

// is: Flags tells this of a row of flags.
func is(t *testing.T, must string, verb int, l ...api.Flag) {
	t.Helper()
	if got := words.Flags(verb, l); got != must {
		t.Errorf("Flags(%d, %.200v) is %q, not %q", verb, l, got, must)
	}
}

func bare(letter byte) api.Flag { return api.Flag{Letter: letter} }

func full(letter byte, arg string) api.Flag { return api.Flag{Letter: letter, Arg: arg, Has: true} }

// The table of the meta commands' flags.
func letters(verb int) (without, with string) {
	switch verb {
	case api.MetaGet:
		return "kqvfctshl", "OTNR"
	case api.MetaSet:
		return "kqcI", "OTFCM"
	case api.MetaDelete:
		return "kqcI", "OTC"
	case api.MetaArith:
		return "kqvct", "OTNCMDJ"
	}
	return "", ""
}

// behind is what may stand behind a letter, and what may not.
func behind(verb int, letter byte) (right, wrong []string) {
	big := strings.Repeat("9", 100)
	switch letter {
	case 'O':
		return []string{"x", "0", "\xff\x80", "noreply", "!~", strings.Repeat("o", 32)},
			[]string{"a b", " ", "a\t", "\x00", "\x7f", "a\r", "\n", "\x1f"}
	case 'T', 'N':
		return []string{"0", "-0", "007", "-1", "9223372036854775807", "-9223372036854775808", strings.Repeat("0", 99) + "9223372036854775807"},
			[]string{"x", "+1", "-", "--1", " 1", "1 ", "9223372036854775808", "-9223372036854775809", big, "-" + big, "\xd9\xa1", "1_0"}
	case 'R', 'C', 'D', 'J':
		return []string{"0", "007", "18446744073709551615", "0018446744073709551615", strings.Repeat("0", 99)},
			[]string{"x", "+1", "-1", "-0", " 1", "1 ", "18446744073709551616", big, "0x1", "1_0"}
	case 'F':
		return []string{"0", "007", "4294967295", "004294967295"},
			[]string{"x", "+1", "-1", "-0", "4294967296", "18446744073709551616", big, "1 "}
	case 'M':
		if verb == api.MetaSet {
			return []string{"S", "E", "A", "P", "R", "s", "e", "a", "p", "r"}, []string{"I", "D", "i", "d", "SS", "SE", "0", "\x00", " ", "\xff"}
		}
		return []string{"I", "D", "i", "d"}, []string{"S", "E", "A", "P", "R", "s", "e", "a", "p", "r", "ID", "II", "0", "\x00", "+", "\xff"}
	}
	return nil, nil
}

// P11.12: every letter of every verb, with nothing behind it, with what may stand there, and with what may not.
func TestLetters(t *testing.T) {
	for v := -1; v <= api.MetaNoop+1; v++ {
		without, with := letters(v)
		for b := range 256 {
			letter := byte(b)
			switch {
			case strings.IndexByte(without, letter) >= 0:
				is(t, "", v, bare(letter))
				is(t, badToken, v, full(letter, "1"))
				is(t, badToken, v, full(letter, ""))
				is(t, badToken, v, api.Flag{Letter: letter, Arg: "1"})
			case strings.IndexByte(with, letter) >= 0:
				theseLetters(t, v, letter)
			default:
				is(t, noFlag, v, bare(letter))
				is(t, noFlag, v, full(letter, "1"))
				is(t, noFlag, v, full(letter, ""))
				is(t, noFlag, v, api.Flag{Letter: letter, Arg: "1"})
			}
		}
	}
}

// theseLetters: one behind which something stands.
func theseLetters(t *testing.T, v int, letter byte) {
	t.Helper()
	right, wrong := behind(v, letter)
	if len(right) == 0 || len(wrong) == 0 {
		t.Fatalf("nothing stands behind %c", letter)
	}
	none := badToken
	if letter == 'O' {
		none = badOpaque
	}
	is(t, none, v, bare(letter))
	is(t, none, v, full(letter, ""))
	for _, arg := range right {
		is(t, "", v, full(letter, arg))
		is(t, badToken, v, api.Flag{Letter: letter, Arg: arg})
	}
	for _, arg := range wrong {
		is(t, badToken, v, full(letter, arg))
		is(t, badToken, v, api.Flag{Letter: letter, Arg: arg})
	}
}

// No flags are right, whatever the verb is.
func TestNoFlags(t *testing.T) {
	for _, v := range []int{least, -1, 0, api.Get, api.Set, api.MetaGet, api.MetaSet, api.MetaDelete, api.MetaArith, api.MetaNoop, 25, greatest} {
		is(t, "", v)
		if s := words.Flags(v, []api.Flag{}); s != "" {
			t.Errorf("Flags(%d) of none is %q", v, s)
		}
	}
}

// All letters of a verb may stand in one row, each once, in any order.
func TestAllLetters(t *testing.T) {
	for _, v := range []int{api.MetaGet, api.MetaSet, api.MetaDelete, api.MetaArith} {
		without, with := letters(v)
		var l, back []api.Flag
		for i := range len(without) {
			l = append(l, bare(without[i]))
		}
		for i := range len(with) {
			right, _ := behind(v, with[i])
			l = append(l, full(with[i], right[0]))
		}
		for i := range l {
			back = append(back, l[len(l)-1-i])
		}
		is(t, "", v, l...)
		is(t, "", v, back...)
		for i := range l {
			is(t, twice, v, append(append([]api.Flag{}, l...), l[i])...)
		}
	}
}

// P11.12: of one flag the first that applies; of several flags the first that is wrong.
func TestOrderOfFlags(t *testing.T) {
	get := api.MetaGet
	// A letter that is none of the verb's: ahead of all else, and twice too.
	is(t, noFlag, get, bare('z'), bare('z'))
	is(t, noFlag, api.MetaDelete, full('J', "x"))
	is(t, noFlag, api.Get, full('O', ""))
	is(t, noFlag, api.MetaNoop, bare('q'))
	// Twice: ahead of what stands behind.
	is(t, twice, get, bare('v'), full('v', "x"))
	is(t, twice, get, full('O', "x"), full('O', ""))
	is(t, twice, get, full('O', "x"), full('O', strings.Repeat("o", 33)))
	is(t, twice, get, full('T', "1"), bare('T'))
	is(t, twice, get, full('T', "1"), bare('q'), full('T', "2"))
	// O's length: ahead of its bytes, and of Has.
	is(t, badOpaque, get, full('O', strings.Repeat(" ", 33)))
	is(t, badOpaque, get, api.Flag{Letter: 'O', Arg: strings.Repeat("o", 33)})
	is(t, badOpaque, get, full('O', ""))
	is(t, badToken, get, full('O', strings.Repeat(" ", 32)))
	// The first flag that is wrong.
	is(t, badToken, get, full('k', "1"), bare('k'))
	is(t, badToken, get, full('k', "1"), bare('z'))
	is(t, noFlag, get, bare('z'), full('k', "1"))
	is(t, badOpaque, get, bare('O'), bare('z'))
	is(t, badToken, get, bare('T'), full('T', "1"))
	is(t, twice, get, bare('k'), bare('q'), bare('k'), bare('z'))
	// Great and small letters are two.
	is(t, "", get, bare('t'), full('T', "1"))
	is(t, "", api.MetaSet, bare('c'), full('C', "1"))
	is(t, noFlag, api.MetaSet, bare('i'))
}

// Line tells of flags what Flags does.
func TestFlagsOfLines(t *testing.T) {
	for _, x := range []struct{ line, must string }{
		{"mg a k1 z", badToken},
		{"mg a z k1", noFlag},
		{"mg a k k1", twice},
		{"mg a O", badOpaque},
		{"mg a O" + strings.Repeat("o", 33), badOpaque},
		{"mg a Oa\tb", badToken},
		{"mg a R-1", badToken},
		{"mg a J5", noFlag},
		{"mg a \x7f", noFlag},
		{"md a v", noFlag},
		{"md a T5x", badToken},
		{"ma a F5", noFlag},
		{"ma a D", badToken},
		{"ma a MID", badToken},
	} {
		refuses(t, x.line, client(x.must, -1))
	}
	refuses(t, "ms a 5 MI", client(badToken, 5))
	refuses(t, "ms a 5 F4294967296", client(badToken, 5))
	refuses(t, "ms a 5 v", client(noFlag, 5))
	reads(t, "ms a 5 Mr F4294967295 I C0 T-1 O"+strings.Repeat("o", 32), meta(verb(api.MetaSet, "a"), "Mr", "F4294967295", "I", "C0", "T-1", "O"+strings.Repeat("o", 32)), 5)
	reads(t, "mg a l s O\xff t T007", meta(verb(api.MetaGet, "a"), "l", "s", "O\xff", "t", "T007"), -1)
	reads(t, "mg a", verb(api.MetaGet, "a"), -1)
	reads(t, "md a   q  ", meta(verb(api.MetaDelete, "a"), "q"), -1)
}
