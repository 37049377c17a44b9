package store_test

import (
	"math"
	"strings"
	"testing"

	"granary/api"
)

// P10.9: values that are no number are refused, and stay.
func TestNoNumber(t *testing.T) {
	w := opened(t, small())
	for _, v := range []string{
		"", " ", "1 ", " 1", "-1", "+1", "1.0", "0x1", "a", "1a", "1_000", "\x001", "1\r\n", "/", ":", "1\xff",
		"18446744073709551616", "99999999999999999999", "000000000000000000000", "000000000000000000001", "184467440737095516150",
		strings.Repeat("1", 190), "\u0661",
	} {
		for _, verb := range []int{api.Incr, api.Decr} {
			w.sets(v, "n")
			must, issued := w.entry("n"), w.Issued()
			w.refuses(by(verb, "n", 1), noNumber)
			w.has(must)
			w.why(0)
			if w.Issued() != issued {
				t.Errorf("%q: a token was issued", v)
			}
		}
	}
}

// P10.9: numbers.
func TestNumbers(t *testing.T) {
	const most = math.MaxUint64
	for _, x := range []struct {
		value       string
		delta       uint64
		incr, decr  uint64
		sum, lesser string
	}{
		{"0", 0, 0, 0, "0", "0"},
		{"0", 1, 1, 0, "1", "0"},
		{"5", 5, 10, 0, "10", "0"},
		{"5", 4, 9, 1, "9", "1"},
		{"5", 6, 11, 0, "11", "0"},
		{"100", 1, 101, 99, "101", "99"},
		{"007", 1, 8, 6, "8", "6"},
		{"00000000000000000000", 3, 3, 0, "3", "0"},
		{"00000000000000000010", 1, 11, 9, "11", "9"},
		{"18446744073709551615", 0, most, most, "18446744073709551615", "18446744073709551615"},
		{"18446744073709551615", 1, 0, most - 1, "0", "18446744073709551614"},
		{"18446744073709551615", most, most - 1, 0, "18446744073709551614", "0"},
		{"18446744073709551614", 1, most, most - 2, "18446744073709551615", "18446744073709551613"},
		{"1", most, 0, 0, "0", "0"},
		{"10000000000000000000", 9000000000000000000, 553255926290448384, 1000000000000000000, "553255926290448384", "1000000000000000000"},
	} {
		w := opened(t, small())
		w.sets(x.value, "n")
		w.counts(by(api.Incr, "n", x.delta), x.incr)
		w.holds("n", x.sum)
		w.sets(x.value, "n")
		w.counts(by(api.Decr, "n", x.delta), x.decr)
		w.holds("n", x.lesser)
	}
}

// P10.9: no item.
func TestNumberOfNone(t *testing.T) {
	w := begun(t)
	w.stores(till(set("dead", "1"), -1))
	for _, v := range []int{api.Incr, api.Decr} {
		w.is(by(v, "n", 1), api.NotFound)
		w.why(1)
	}
	w.is(by(api.Incr, "dead", 1), api.NotFound)
	w.why(2)
	w.resident(0, 0, 0)
}

// P10.9: digits that fit the chunk are laid in place: the item keeps its flags, expiry and queue, and is hit.
func TestNumberInPlace(t *testing.T) {
	w := begun(t)
	c := till(set("n", "9999"), 50)
	c.Flags = 7
	w.stores(c)
	w.sets("x", "m")
	w.queues("", "", "m n")
	w.ticks(3)
	if !w.Mark("n", api.MarkStale|api.MarkWon) {
		t.Error("Mark")
	}
	w.counts(by(api.Incr, "n", 1), 10000)
	w.has(api.Entry{Key: "n", Value: []byte("10000"), Flags: 7, Expiry: 51, Token: 3, Touched: 4, Hit: true})
	w.resident(2, 0, 0)
	if w.Bytes() != 58+6+58+2 {
		t.Errorf("Bytes: %d", w.Bytes())
	}
	// The balance behind it moves the active tail of cold to warm, which has more than its share then.
	w.queues("", "", "n m")
	w.meter(api.Meter{Links: 2})
	w.counts(by(api.Decr, "n", 9990), 10)
	w.has(api.Entry{Key: "n", Value: []byte("10"), Flags: 7, Expiry: 51, Token: 4, Touched: 4, Hit: true})
	if w.Bytes() != 58+3+58+2 {
		t.Errorf("Bytes: %d", w.Bytes())
	}
	w.ticks(46)
	w.holds("n", "10")
	w.ticks(1)
	w.lacks("n")
}

// P10.9: digits that do not fit the chunk: the item is stored anew, with its flags and expiry.
func TestNumberStoredAnew(t *testing.T) {
	w := begun(t)
	c := till(set("n", "99999"), 50)
	c.Flags = 7
	w.stores(c)
	w.tells(get("n"), "n")
	w.Mark("n", api.MarkStale|api.MarkWon)
	w.ticks(3)
	w.counts(by(api.Incr, "n", 1), 100000)
	w.has(api.Entry{Key: "n", Value: []byte("100000"), Flags: 7, Expiry: 51, Token: 2, Touched: 4})
	w.resident(0, 1, 0)
	if w.Bytes() != 58+7 {
		t.Errorf("Bytes: %d", w.Bytes())
	}
	// Fewer digits stay where they are.
	w.counts(by(api.Decr, "n", 99999), 1)
	w.resident(0, 1, 0)
	w.ticks(46)
	w.holds("n", "1")
	w.ticks(1)
	w.lacks("n")
}

// P10.9: too large, and no room: the old item stays.
func TestNumberRefused(t *testing.T) {
	c := small()
	c.ItemLimit = 65 // chunks of 64 and 72 bytes
	w := paced(t, c, slow())
	w.sets("99999", "n")
	w.counts(by(api.Incr, "n", 1), 100000)
	w.resident(0, 1)
	// 66 to 72 bytes fit the chunk, whatever the limit is.
	w.counts(by(api.Incr, "n", 9999900000), 10000000000)
	w.counts(by(api.Incr, "n", 9990000000000-10000000000), 9990000000000)
	w.holds("n", "9990000000000")
	must := w.entry("n")
	w.refuses(by(api.Incr, "n", 10000000000000), large)
	w.has(must)
	w.sets("999999", "n")
	w.sets("9999", "kk")
	w.resident(1, 1)
	must = w.entry("kk")
	w.refuses(by(api.Incr, "kk", 1000000), large)
	w.has(must)

	// No page is left for class 1, and it has no item.
	w = paced(t, small(), slow())
	w.sets(long(190), names(64)[:33]...)
	w.sets("99999", "n")
	w.resident(1, 0, 33)
	must = w.entry("n")
	w.refuses(by(api.Incr, "n", 1), noRoom)
	w.has(must)
	w.counts(by(api.Decr, "n", 1), 99998)
}

// P10.9, P10.8: for a number's chunk another item may go; the item's own does not.
func TestNumberDrops(t *testing.T) {
	w := paced(t, full(), slow())
	w.sets("99999", "n")
	w.sets(long(190), "l")
	w.sets(long(30), names(32)...)
	w.resident(1, 32, 1)
	w.counts(by(api.Incr, "n", 1), 100000)
	if m := w.Meter(); m.Dropped != 1 || m.Looked != 5 {
		t.Errorf("Meter: %+v", m)
	}
	w.resident(0, 32, 1)
	w.lacks("k000")
	w.holds("n", "100000")
}
