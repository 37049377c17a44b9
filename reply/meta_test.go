package reply_test

import (
	"slices"
	"strconv"
	"strings"
	"testing"

	"granary/api"
)

// line is how an answer of a meta verb is written.
func line(r api.Answer) string {
	if len(r.Entries) == 1 {
		return r.Text + "\r\n" + string(r.Entries[0].Value) + "\r\n"
	}
	return r.Text + "\r\n"
}

// wide is a line of so many bytes, with flags as long as may be behind what it begins with.
func wide(begin string, n int) string {
	for len(begin) < n {
		begin += " " + many(min(251, n-len(begin)-1))
	}
	return begin
}

// P13.1: each code of each verb, and the codes of others.
func TestCodes(t *testing.T) {
	all := []string{"HD", "VA", "EN", "NS", "EX", "NF", "MN"}
	for v := api.MetaGet; v <= api.MetaNoop; v++ {
		c := cmd(v, "a")
		for _, code := range all {
			r := meta(code)
			if code == "VA" {
				r = block("VA 2", "hi")
			}
			if slices.Contains(codesOf(v), code) {
				fits(t, c, r, line(r))
			} else {
				unfit(t, c, r)
				bad(t, c, code)
			}
		}
		for _, text := range []string{"", " ", "H", "hd", "HDx", "HD\r\n", "\r\n", "XX", "END", "OK", " HD", "MNx", "V", "M"} {
			unfit(t, c, meta(text))
		}
		for _, raw := range []string{"\r\n", " ", "hd", "HDx", "XX", "HD\n", "HD\rx", "MNx", "VAx", "VA\r", "ENx", "END", "EN ", "MN "} {
			bad(t, c, raw)
		}
	}
	for v := api.Get; v <= api.Stats; v++ {
		unfit(t, cmd(v, "a"), meta("HD"))
		unfit(t, cmd(v, "a"), block("VA 2", "hi"))
		unfit(t, cmd(v, "a"), meta("MN"))
	}
}

// flagged are the codes of a verb that may have flags, each as the beginning of a line, with its block.
func flagged(v int) []api.Answer {
	var l []api.Answer
	for _, code := range codesOf(v) {
		switch code {
		case "VA":
			l = append(l, block("VA 2", "hi"))
		case "HD", "NS", "EX", "NF":
			l = append(l, meta(code))
		}
	}
	return l
}

// P13.1: flags are words of 1 to MaxKey + 1 bytes, one blank ahead of each.
func TestFlagWords(t *testing.T) {
	for v := api.MetaGet; v <= api.MetaArith; v++ {
		c := cmd(v, "a")
		for _, r := range flagged(v) {
			begin := r.Text
			with := func(words string) api.Answer { r.Text = begin + words; return r }
			for _, words := range []string{" k", " x", " 0", " W", " ~", " \xff", " \x80\x81", " k k", " a b c d e f g", " ka Oxy f0", " " + many(250), " " + many(251), " k " + many(251) + " k"} {
				fits(t, c, with(words), line(with(words)))
			}
			for _, words := range []string{" ", "  ", "  k", " k ", " k  k", "k", "\tk", " \t", " \x1f", " \x7f", " a\x00", " a\r", " a\n", "\r\n", " k\r\nHD", " " + many(252), " k " + many(252)} {
				unfit(t, c, with(words))
			}
			for b := range 256 {
				words := " k" + string([]byte{byte(b)}) + "k"
				if b >= 32 && b != 127 {
					fits(t, c, with(words), line(with(words)))
				} else {
					unfit(t, c, with(words))
				}
			}
			for _, raw := range []string{"", " ", " k", " " + many(251), " k " + many(251), "\r"} {
				wants(t, c, begin+raw)
			}
			for _, raw := range []string{"  ", " \r", " k  ", " k \r", " k\n", " \x7f", " \x1f", " k\x00", " k\rx", " " + many(252), " k " + many(252)} {
				bad(t, c, begin+raw)
			}
		}
	}
}

// P13.1: lines of MaxLine bytes, and one more.
func TestLineLength(t *testing.T) {
	for v := api.MetaGet; v <= api.MetaArith; v++ {
		c := cmd(v, "a")
		for _, r := range flagged(v) {
			begin := r.Text
			for _, n := range []int{2046, 2047, 2048} {
				r.Text = wide(begin, n)
				fits(t, c, r, line(r))
			}
			for _, n := range []int{2049, 2050, 5000} {
				r.Text = wide(begin, n)
				unfit(t, c, r)
				bad(t, c, r.Text)
			}
			wants(t, c, wide(begin, 2048))
			wants(t, c, wide(begin, 2048)+"\r")
			bad(t, c, wide(begin, 2048)+"x")
			bad(t, c, wide(begin, 2048)+" ")
			// A blank for whose word there is no room any more.
			bad(t, c, wide(begin, 2047)+" ")
			wants(t, c, wide(begin, 2046)+" ")
			bad(t, c, wide(begin, 2046)+" kk")
			bad(t, c, wide(begin, 2046)+" k ")
		}
	}
}

// P13.1: the word behind VA is the length of its block, and there is just one Entry.
func TestBlocks(t *testing.T) {
	for _, v := range []int{api.MetaGet, api.MetaArith} {
		c := cmd(v, "a")
		for _, value := range []string{"", "x", "\r\n", "hi\r\n", "VA 2\r\nhi\r\n", "\x00\xff", many(9), many(10), strings.Repeat("\r\n", 1<<19)} {
			r := block("VA "+strconv.Itoa(len(value)), value)
			fits(t, c, r, line(r))
			r.Text += " W"
			fits(t, c, r, line(r))
			r.Entries[0] = api.Entry{Key: "a b", Value: r.Entries[0].Value, Flags: api.MaxNumber, Expiry: -1, Token: 9, Touched: 7, Stale: true, Won: true, Hit: true}
			fits(t, c, r, line(r))
		}
		for _, text := range []string{"VA", "VA ", "VA W", "VA 1", "VA 3", "VA 02", "VA 2 ", "VA  2", "VA +2", "VA -2", "VA 2x", "VA W 2", "VA 0x2", "HD", "HD 2"} {
			unfit(t, c, block(text, "hi"))
		}
		unfit(t, c, block("VA 1048577", many(1<<20+1)))
		unfit(t, c, block("VA", ""))
		unfit(t, c, meta("VA 0"))
		unfit(t, c, meta("VA 2"))
		two := block("VA 2", "hi")
		two.Entries = append(two.Entries, two.Entries[0])
		unfit(t, c, two)
		for _, raw := range []string{"VA", "VA ", "VA 1048576", "VA 1048576 W\r\n", "VA 0", "VA 0\r\n", "VA 0\r\n\r", "VA 2\r\nhi", "VA 2\r\nhi\r"} {
			wants(t, c, raw)
		}
		for _, raw := range []string{"VA\r", "VA  ", "VA \r", "VA W", "VA -1", "VA 00", "VA 02", "VA 1048577", "VA 10485760", "VA 2x", "VA 2\n", "VA 2\r\nhix", "VA 2\r\nhi\n", "VA 2\r\nhi\rx", "VA 0\r\nx"} {
			bad(t, c, raw)
		}
	}
	for v := api.MetaGet; v <= api.MetaNoop; v++ {
		for _, code := range codesOf(v) {
			unfit(t, cmd(v, "a"), block(code, ""))
			unfit(t, cmd(v, "a"), block(code, "x"))
		}
	}
}

// P13.1: EN and MN have no words.
func TestAlone(t *testing.T) {
	for _, words := range []string{" ", " x", " k", " 0", "x", "  "} {
		unfit(t, cmd(api.MetaGet, "a"), meta("EN"+words))
		bad(t, cmd(api.MetaGet, "a"), "EN"+words)
		unfit(t, cmd(api.MetaNoop), meta("MN"+words))
		bad(t, cmd(api.MetaNoop), "MN"+words)
	}
	for _, raw := range []string{"", "E", "EN", "EN\r", "ER", "V", "H", "C", "S"} {
		wants(t, cmd(api.MetaGet, "a"), raw)
	}
	for _, raw := range []string{"N", "NF", "EX", "MN", "SE ", "ST", "OK", "VALUE", "NOT_FOUND"} {
		bad(t, cmd(api.MetaGet, "a"), raw)
	}
	for _, raw := range []string{"", "M", "MN", "MN\r", "E", "ERROR", "S"} {
		wants(t, cmd(api.MetaNoop), raw)
	}
	for _, raw := range []string{"H", "EN", "V", "N", "MM"} {
		bad(t, cmd(api.MetaNoop), raw)
	}
}
