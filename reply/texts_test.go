package reply_test

import (
	"strconv"
	"strings"
	"testing"

	"granary/api"
)

// right are words; wrong are none, each with a byte that is wrong, or none at all.
func right() []string {
	return []string{"x", "!", "~", "granary 1", "a  b", "a   b c", "ERROR", "\x21", "\x7e", "x" + strings.Repeat(" ", 510) + "y", many(511), many(512)}
}

func wrong() []string {
	return []string{"", " ", "  ", " x", "x ", " x ", "\x1f", "\x7f", "\x80", "\xff", "a\x1fb", "a\x7fb", "a\x00b", "a\tb", "a\rb", "a\nb", "a\r\nb", "\r\n", "x" + strings.Repeat(" ", 511), "x" + strings.Repeat(" ", 511) + "y", many(512) + " ", many(513), many(5000)}
}

// P13.1: Told has words, of 1 to 512 bytes.
func TestTold(t *testing.T) {
	c := cmd(api.Version)
	for _, text := range right() {
		fits(t, c, told(text), "VERSION "+text+"\r\n")
	}
	for _, text := range wrong() {
		unfit(t, c, told(text))
	}
	for b := range 256 {
		text := "a" + string([]byte{byte(b)}) + "c"
		if b >= 32 && b <= 126 {
			fits(t, c, told(text), "VERSION "+text+"\r\n")
		} else {
			unfit(t, c, told(text))
		}
	}
	for _, raw := range []string{"V", "VERSION", "VERSION ", "VERSION x", "VERSION x ", "VERSION x  ", "VERSION " + many(512), "VERSION " + many(512) + "\r", "VERSION " + many(510) + " ", "VERSION x" + strings.Repeat(" ", 510)} {
		wants(t, c, raw)
	}
	for _, raw := range []string{"v", "VERSION\r", "VERSION \r", "VERSION  ", "VERSION x\n", "VERSION x \r", "VERSION x\rx", "VERSION \x1f", "VERSION \x7f", "VERSION x\x80", "VERSION " + many(513), "VERSION " + many(511) + " ", "VERSION x" + strings.Repeat(" ", 511), "VERSIONS"} {
		bad(t, c, raw)
	}
}

// P13.1: what is Refused is ERROR, or one of two words with words behind it; of every verb but Quit.
func TestRefused(t *testing.T) {
	for v := 1; v <= verbs; v++ {
		c := cmd(v, "a")
		if v == api.Quit {
			unfit(t, c, refused("ERROR"))
			unfit(t, c, refused("SERVER_ERROR x"))
			continue
		}
		fits(t, c, refused("ERROR"), "ERROR\r\n")
		for _, code := range []string{"CLIENT_ERROR", "SERVER_ERROR"} {
			for _, text := range right() {
				fits(t, c, refused(code+" "+text), code+" "+text+"\r\n")
			}
			for _, text := range wrong() {
				unfit(t, c, refused(code+" "+text))
			}
			refusedRaw(t, c, code)
			unfit(t, c, refused(code))
			unfit(t, c, refused(code+"x"))
			unfit(t, c, refused(" "+code+" x"))
			unfit(t, c, refused(strings.ToLower(code)+" x"))
		}
		for _, text := range []string{"", "x", "error", "ERRORS", "ERROR ", " ERROR", "ERROR x", "ERROR\r\n", "bad command", "OK", "CLIENT ERROR x", "END"} {
			unfit(t, c, refused(text))
		}
		for _, raw := range []string{"ERROR\n", "ERROR ", "ERRORS", "ERROR\rx", "error", "CLIENT_ERRORS", "SERVER_ERROR\r", "CLIENT ", "SERVER_ERROr"} {
			bad(t, c, raw)
		}
	}
}

// refusedRaw: the borders of words that are read.
func refusedRaw(t *testing.T, c api.Command, code string) {
	t.Helper()
	for _, raw := range []string{code[:1], code, code + " ", code + " x", code + " x ", code + " " + many(512), code + " " + many(510) + " "} {
		wants(t, c, raw)
	}
	for _, raw := range []string{code + "  ", code + " \r", code + " x \r", code + " x\n", code + " " + many(513), code + " " + many(511) + " ", code + " a\x1f", code + " a\x7f", code + " a\xff"} {
		bad(t, c, raw)
	}
}

// P13.1: names of 0, 1, MaxKey and MaxKey + 1 bytes; numbers of any size.
func TestStats(t *testing.T) {
	c := cmd(api.Stats)
	for _, name := range []string{"a", "!", "~", "END", "STAT", many(249), many(250)} {
		for _, n := range []uint64{0, 1, 9, 10, api.MaxNumber} {
			line := "STAT " + name + " " + strconv.FormatUint(n, 10) + "\r\n"
			fits(t, c, stats(stat(name, n)), line+"END\r\n")
			fits(t, c, stats(stat("b", 2), stat(name, n), stat("b", 2)), "STAT b 2\r\n"+line+"STAT b 2\r\nEND\r\n")
		}
	}
	for _, name := range []string{"", " ", "a b", " a", "a ", "\x1f", "\x7f", "\x80", "a\xff", "a\r\n", "\x00", many(251), many(5000)} {
		unfit(t, c, stats(stat(name, 1)))
		unfit(t, c, stats(stat("b", 2), stat(name, 1)))
		unfit(t, c, stats(stat(name, 1), stat("b", 2)))
	}
	for b := range 256 {
		name := "a" + string([]byte{byte(b)})
		if b >= 33 && b <= 126 {
			fits(t, c, stats(stat(name, 7)), "STAT "+name+" 7\r\nEND\r\n")
		} else {
			unfit(t, c, stats(stat(name, 7)))
		}
	}
	for _, raw := range []string{"S", "STAT", "STAT ", "STAT a", "STAT " + many(250), "STAT " + many(250) + " ", "STAT a 18446744073709551615", "STAT a 0", "STAT a 1\r\nSTAT", "STAT a 1\r\nE"} {
		wants(t, c, raw)
	}
	for _, raw := range []string{"STAT\r", "STAT  ", "STAT a\r", "STAT a  ", "STAT a x", "STAT a -1", "STAT a 00", "STAT a 01", "STAT a 1 ", "STAT a 1\n", "STAT a \r", "STAT " + many(251), "STAT \x7f", "STAT a\x80", "STAT a 18446744073709551616", "STAT a 1\r\nSE", "STAT a 1\r\nER", "STAT a 1\r\nRESET", "END\n", "ENDS", "RESET"} {
		bad(t, c, raw)
	}
	bad(t, what("reset"), "STAT")
	bad(t, what("reset"), "END")
	wants(t, what("reset"), "RESE")
	unfit(t, what("reset"), stats(stat("a", 1)))
	fits(t, what("resets"), stats(stat("a", 1)), "STAT a 1\r\nEND\r\n")
}

// P13.4: numbers have no zeros ahead, and are bounded.
func TestNumbers(t *testing.T) {
	for _, v := range []int{api.Incr, api.Decr} {
		c := cmd(v, "n")
		for _, n := range []uint64{0, 1, 7, 9, 10, 99, 100, 4294967296, 9999999999999999999, 10000000000000000000, api.MaxNumber - 1, api.MaxNumber} {
			fits(t, c, number(n), strconv.FormatUint(n, 10)+"\r\n")
		}
		for _, raw := range []string{"", "0", "0\r", "1", "10000000000000000000", "18446744073709551615", "18446744073709551615\r", "N", "NOT_FOUND\r", "E", "C", "S"} {
			wants(t, c, raw)
		}
		for _, raw := range []string{"00", "01", "007\r\n", "0x", "-1", "+1", " 1", "1 ", "1\n", "1\rx", "1x", "\r\n", "18446744073709551616", "18446744073709551620", "99999999999999999999", "184467440737095516150", strings.Repeat("9", 100), "1.0", "1_0", "\xd9\xa1", "NOT_S", "n", "VALUE", "OK"} {
			bad(t, c, raw)
		}
	}
}
