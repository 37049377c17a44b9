package serve_test

import (
	"math/rand/v2"
	"strconv"
	"strings"

	"granary/api"
)

// dice throw commands and events.
type dice struct {
	*rand.Rand
	odd   int                     // one word in so many is odd; 0: none is
	plain bool                    // whether the classic verbs alone are thrown
	calm  bool                    // whether nothing dies, and no stats is set back
	crowd bool                    // whether one command in two stores a great value
	token func(key string) uint64 // that of a key's item, if somebody knows

	last  int            // the connection that was opened last
	waits map[int]string // what is still to be sent on each
}

func diceOf(seed uint64) *dice {
	return &dice{Rand: rand.New(rand.NewPCG(16, seed)), waits: map[int]string{}}
}

// pick is one of some.
func pick[T any](d *dice, some ...T) T { return some[d.IntN(len(some))] }

func (d *dice) isOdd() bool { return d.odd > 0 && d.IntN(d.odd) == 0 }

func (d *dice) key() string {
	switch {
	case d.isOdd():
		return pick(d, many(251), "a\x7f", "a\tb", "\x01", "a b")
	case d.IntN(40) == 0:
		return pick(d, many(190), many(250), "\xff\x80", "noreply", "{}")
	case d.IntN(2) == 0:
		return pick(d, "a", "b", "c", "n", "m")
	}
	return "key" + digits(d.IntN(120))
}

func (d *dice) time() string {
	switch {
	case d.isOdd():
		return pick(d, "9223372036854775808", "x", "1.5", "--1", "-")
	case d.calm || d.IntN(6) > 0:
		return "0"
	}
	return pick(d, "1", "2", "5", "30", "100", "-1", "-1", "-1", "-9", "2592000", "2592001", "9223372036854775807", "-0", "007")
}

func (d *dice) flags() string {
	if d.isOdd() {
		return pick(d, "4294967296", "-1", "x")
	}
	return pick(d, "0", "0", "5", "4294967295", "005")
}

func (d *dice) value() string {
	switch d.IntN(8) {
	case 0:
		return pick(d, "0", "1", "99", "99999", "18446744073709551615", "18446744073709551616", "x1", "")
	case 1:
		return many(d.IntN(300))
	case 2:
		return pick(d, "\r\n", "\n", "END\r\n", "get a\r\n", "quit\r\n", "\x00\xff")
	case 3, 4:
		return many(180 + d.IntN(20))
	}
	return many(1 + d.IntN(60))
}

func (d *dice) number() string {
	if d.isOdd() {
		return pick(d, "18446744073709551616", "-1", "x")
	}
	return pick(d, "0", "1", "1", "2", "7", "18446744073709551615", "007")
}

// known is a token that a key's item may have.
func (d *dice) known(key string) string {
	n := d.Uint64N(60)
	if d.token != nil && d.IntN(4) > 0 {
		n = d.token(key) + pick[uint64](d, 0, 0, 1)
	}
	if d.isOdd() {
		return "x"
	}
	return strconv.FormatUint(n, 10)
}

// block is a data block, and its length.
func (d *dice) block() (n, data string) {
	v := d.value()
	n, data = digits(len(v)), v+"\r\n"
	if d.isOdd() {
		data = v + pick(d, "x\r\n", "\n", "\rx\n")
	}
	if d.isOdd() {
		n = pick(d, "-1", "x", "2147483648")
	}
	return n, data
}

func (d *dice) noreply() string { return pick(d, "", "", "", " noreply") }

// flag is one of a meta command's.
func (d *dice) flag(letter byte, key string) string {
	word := string([]byte{letter})
	switch letter {
	case 'T', 'N':
		return word + d.time()
	case 'R', 'D', 'J':
		return word + d.number()
	case 'C':
		return word + d.known(key)
	case 'F':
		return word + d.flags()
	case 'O':
		return word + pick(d, "1", "xyz", many(32))
	}
	return word
}

// metaFlags are some of these letters', each once.
func (d *dice) metaFlags(letters, modes, key string) string {
	text := ""
	for _, at := range d.Perm(len(letters))[:d.IntN(4)] {
		text += " " + d.flag(letters[at], key)
	}
	if modes != "" && d.IntN(2) == 0 {
		text += " M" + modes[d.IntN(len(modes)):][:1]
	}
	if d.isOdd() {
		text += pick(d, " z", " v v", " k1", " T", " O"+many(33))
	}
	return text
}

// ends is a line, with its end.
func (d *dice) ends(words ...string) string {
	line := strings.Join(words, " ")
	if d.isOdd() {
		line += pick(d, " x", " noreply noreply", "\r", " 1 2 3 4 5 6 7")
	}
	return line + pick(d, "\r\n", "\r\n", "\r\n", "\n", " \r\n")
}

// command is a line with its block.
func (d *dice) command() string {
	if d.isOdd() {
		return pick(d, "bogus", "", " ", "GET a", "get", many(2047), many(2048), many(2049), "get "+strings.Repeat("a ", 1100), "set a 0 0 99999", "stats items") + "\r\n"
	}
	if d.crowd && d.IntN(2) == 0 {
		return "set key" + digits(d.IntN(120)) + " 0 " + pick(d, "0", "0", "-1") + " 190\r\n" + many(190) + "\r\n"
	}
	if !d.plain && d.IntN(3) == 0 {
		return d.metaCommand()
	}
	key := d.key()
	n, data := d.block()
	switch d.IntN(20) {
	case 0, 1, 2, 3, 4:
		return d.ends(pick(d, "get", "gets"), key+pick(d, "", " "+d.key(), " a b c n"))
	case 5:
		return d.ends(pick(d, "gat", "gats"), d.time(), key+pick(d, "", " "+d.key()))
	case 6, 7, 8, 9, 10, 11:
		verb := pick(d, "set", "set", "set", "set", "add", "replace", "append", "prepend")
		return d.ends(verb, key, d.flags(), d.time(), n+d.noreply()) + data
	case 12:
		return d.ends("cas", key, d.flags(), d.time(), n, d.known(key)+d.noreply()) + data
	case 13:
		return d.ends("delete", key+pick(d, "", "", " 0")+d.noreply())
	case 14, 15:
		return d.ends(pick(d, "incr", "decr"), pick(d, "n", "m", key), d.number()+d.noreply())
	case 16:
		return d.ends("touch", key, d.time()+d.noreply())
	case 17:
		return d.ends(pick(d, "version", "verbosity 1", "verbosity 0 noreply", "stats", "stats"))
	case 18:
		return "set n 0 0 2\r\n" + pick(d, "50", "99", " 1") + "\r\n"
	}
	return d.rare()
}

// rare is a command that would spoil most scripts, if it came often.
func (d *dice) rare() string {
	if d.calm || d.IntN(20) > 0 {
		return d.ends("get", d.key())
	}
	return d.ends(pick(d, "flush_all", "flush_all 0", "flush_all 1", "flush_all 3 noreply", "flush_all 2592001", "stats reset"))
}

func (d *dice) metaCommand() string {
	key := d.key()
	n, data := d.block()
	switch d.IntN(8) {
	case 0, 1, 2:
		return d.ends("mg", key+d.metaFlags("kqvfctshlOTNR", "", key))
	case 3, 4:
		return d.ends("ms", key, n+d.metaFlags("kqcIOTFC", "SERAPserap", key)) + data
	case 5:
		return d.ends("md", key+d.metaFlags("kqcIOTC", "", key))
	case 6:
		return d.ends("ma", pick(d, "n", "m", key)+d.metaFlags("kqvctOTNCDJ", "IDid", key))
	}
	return d.ends("mn")
}

// event is the next one: on a handful of connections, the bytes of each cut anywhere.
func (d *dice) event() api.Event {
	conn := max(1, d.last-d.IntN(4))
	switch k := d.IntN(100); {
	case d.last == 0 || k < 2:
		d.last++
		return opening()
	case k == 2:
		d.waits[conn] = ""
		return closing(conn)
	case k == 3:
		d.waits[conn] += "quit\r\n"
	case k == 4 && d.odd > 0:
		return pick(d, api.Event{Kind: pick(d, 0, 5, -1), Conn: conn, N: 1}, closing(d.last+1), chunk(0, "get a|"), tick(0), tick(-1), tick(1<<40))
	case k < 8:
		return tick(pick(d, 1, 1, 1, 2))
	}
	for range 1 + d.IntN(4) {
		d.waits[conn] += d.command()
	}
	at := len(d.waits[conn])
	if d.IntN(3) == 0 {
		at = d.IntN(at + 1)
	}
	now := d.waits[conn][:at]
	d.waits[conn] = d.waits[conn][at:]
	return api.Event{Kind: api.Chunk, Conn: conn, Bytes: []byte(now)}
}

// script is a row of events.
func (d *dice) script(n int) (all []api.Event) {
	for range n {
		all = append(all, d.event())
	}
	return all
}
