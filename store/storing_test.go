package store_test

import (
	"testing"

	"granary/api"
)

// What the key has behind a storing verb.
const (
	nothing = iota
	was     // the old item
	fresh   // the new one
)

// The item that the key has ahead of it.
const (
	live = iota
	dead
	none
)

var olds = []int{live, dead, none}

// outcome is a cell of P10.6's table: the answer, and what the key has then.
type outcome struct {
	kind int
	text string
	left int
}

func (w *world) comes(what string, c api.Command, must outcome) {
	w.Helper()
	old, ok := w.Find(c.Keys[0])
	issued := w.Issued()
	a := w.Do(c)
	if a.Kind != must.kind || a.Text != must.text || len(a.Entries) != 0 || a.Number != 0 {
		w.Errorf("%s: %v, not %v", what, a, must)
	}
	switch must.left {
	case nothing:
		w.lacks(c.Keys[0])
	case was:
		if !ok {
			w.Fatalf("%s: there was no item", what)
		}
		w.has(old)
	case fresh:
		if e := w.entry(c.Keys[0]); e.Token != issued+1 {
			w.Errorf("%s: token %d behind %d", what, e.Token, issued)
		}
		issued++
	}
	if w.Issued() != issued {
		w.Errorf("%s: issued %d, not %d", what, w.Issued(), issued)
	}
}

// laid lays the old item of key k, of so many bytes; the dead one is dead of a time, not of a flush.
func (w *world) laid(old, bytes int) {
	w.Helper()
	switch old {
	case live:
		w.sets(long(bytes), "k")
	case dead:
		w.stores(till(set("k", long(bytes)), -1))
	}
}

// asked is a storing verb on key k that has its condition, as far as there is a live item.
func (w *world) asked(v, bytes int) api.Command {
	c := with(v, "k", long(bytes))
	if e, ok := w.Find("k"); ok {
		c.Token = e.Token
	}
	return c
}

var (
	isLarge   = outcome{api.Refused, large, nothing}
	isStored  = outcome{api.Stored, "", fresh}
	stays     = outcome{api.Refused, large, was}
	isRoom    = outcome{api.Refused, noRoom, nothing}
	staysRoom = outcome{api.Refused, noRoom, was}
	notStored = outcome{api.NotStored, "", nothing}
	notFound  = outcome{api.NotFound, "", nothing}
)

// cells are those of one row, by verb: with a live old item, a dead one and none.
type cells map[int][3]outcome

// P10.6, row 1: too large by its line or by its length.
func TestTooLarge(t *testing.T) {
	row := cells{
		api.Set:     {isLarge, isLarge, isLarge},
		api.Add:     {isLarge, isLarge, isLarge},
		api.Replace: {isLarge, isLarge, isLarge},
		api.Append:  {stays, isLarge, isLarge},
		api.Prepend: {stays, isLarge, isLarge},
		api.Cas:     {isLarge, isLarge, isLarge},
	}
	for v, must := range row {
		for _, old := range olds {
			for _, by := range []string{"line", "length", "greatest length", "both"} {
				w := begun(t)
				w.laid(old, 3)
				c := w.asked(v, 1)
				c.Token = 99 // the size is asked ahead of the condition
				c.Large = by == "line" || by == "both"
				switch by {
				case "length", "both":
					c.Data = []byte(long(198))
				case "greatest length":
					c.Data = []byte(long(1<<20 + 1))
				}
				w.comes("too large by its "+by, c, must[old])
				w.why([]int{0, 2, 1}[old])
			}
		}
	}
}

// P10.6, row 2: the condition.
func TestConditions(t *testing.T) {
	stayed := outcome{api.NotStored, "", was}
	row := cells{
		api.Set:     {isStored, isStored, isStored},
		api.Add:     {stayed, isStored, isStored},
		api.Replace: {isStored, notStored, notStored},
		api.Append:  {isStored, notStored, notStored},
		api.Prepend: {isStored, notStored, notStored},
		api.Cas:     {isStored, notFound, notFound},
	}
	for v, must := range row {
		for _, old := range olds {
			w := begun(t)
			w.laid(old, 3)
			w.comes("the condition", w.asked(v, 1), must[old])
			w.why([]int{0, 2, 1}[old])
		}
	}
	w := begun(t)
	w.sets("x", "a", "k", "b")
	for _, token := range []uint64{0, 1, 3, 4, 1<<64 - 1} {
		w.comes("another token", cas("k", "y", token), outcome{api.Exists, "", was})
	}
	w.comes("its token", cas("k", "y", 2), isStored)
}

// P10.6, row 3: what is joined is too large, at the item limit and one above it.
func TestJoinedTooLarge(t *testing.T) {
	for _, v := range []int{api.Append, api.Prepend} {
		for _, n := range []int{0, 1, 100, 196} {
			w := begun(t)
			w.laid(live, n)
			w.comes("one above the limit", w.asked(v, 198-n), stays)
			w.comes("at the limit", w.asked(v, 197-n), isStored)
			w.holds("k", long(197))
			w.comes("above the limit", w.asked(v, 1), stays)
			w.comes("far above the limit", w.asked(v, 197), stays)
		}
	}
}

// crowded is a store without a free page, in which the last class has a page or none.
func crowded(t *testing.T, last bool) *world {
	w := paced(t, single(), slow())
	w.sets(long(100), "one")
	w.sets(long(500), "two")
	if !last {
		w.sets("x", names(65)...)
		w.resident(65, 1, 1, 0)
		return w
	}
	w.sets("x", "zero")
	return w
}

// P10.6, row 4: there is no chunk. (A dead item goes when it is met, so that its chunk is there.)
func TestNoChunk(t *testing.T) {
	row := cells{
		api.Set:     {isRoom, isStored, isRoom},
		api.Add:     {{api.NotStored, "", was}, isStored, isRoom},
		api.Replace: {isRoom, notStored, notStored},
		api.Append:  {staysRoom, notStored, notStored},
		api.Prepend: {staysRoom, notStored, notStored},
		api.Cas:     {isRoom, notFound, notFound},
	}
	for v, must := range row {
		for _, old := range olds {
			w := crowded(t, old != none)
			w.laid(old, 3000)
			n := 3000
			if v == api.Append || v == api.Prepend {
				n = 1
			}
			w.comes("no chunk", w.asked(v, n), must[old])
			w.why([]int{0, 2, 1}[old])
			if m := w.Meter(); m.Dropped+m.Reclaimed+m.Looked != 0 {
				t.Errorf("verb %d: %+v", v, m)
			}
		}
	}
}

// P10.7: what is stored: value, flags, expiry, token, and no mark; the new one takes the old one's place.
func TestStored(t *testing.T) {
	for _, v := range storing {
		w := begun(t)
		c := till(set("k", "ol"), 50)
		c.Flags = 7
		w.stores(set("other", "x"))
		if v != api.Add {
			w.stores(c)
			w.tells(get("k"), "k")
			if !w.Mark("k", api.MarkStale|api.MarkWon) {
				t.Error("Mark")
			}
		}
		w.ticks(4)
		c = till(with(v, "k", "ne"), 30)
		c.Flags, c.Token = 9, w.Issued()
		w.stores(c)
		must := api.Entry{Key: "k", Value: []byte("ne"), Flags: 9, Expiry: 35, Token: w.Issued(), Touched: 5}
		switch v {
		case api.Append:
			must.Value, must.Flags, must.Expiry = []byte("olne"), 7, 51
		case api.Prepend:
			must.Value, must.Flags, must.Expiry = []byte("neol"), 7, 51
		}
		w.has(must)
		w.resident(2, 0, 0)
		if got := w.Bytes(); got != 58+6+58+1+len(must.Value) {
			t.Errorf("verb %d: %d bytes", v, got)
		}
		w.ticks(must.Expiry - 6)
		w.has(must)
		w.ticks(1)
		w.lacks("k")
	}
}

// P10.7: the item goes to the chunks of its size's class, and its old chunk is free.
func TestStoredElsewhere(t *testing.T) {
	w := begun(t)
	for _, x := range []struct{ n, class int }{{5, 0}, {6, 1}, {69, 1}, {70, 2}, {197, 2}, {0, 0}} {
		w.sets(long(x.n), "k")
		must := []int{0, 0, 0}
		must[x.class] = 1
		w.resident(must...)
	}
	w.stores(with(api.Append, "k", long(6)))
	w.resident(0, 1, 0)
	w.stores(with(api.Prepend, "k", long(64)))
	w.resident(0, 0, 1)
	w.is(verb(api.Delete, "k"), api.Deleted)
	w.resident(0, 0, 0)
}

// P10.6: the item limit, which need not be a chunk's size.
func TestItemLimit(t *testing.T) {
	for limit := 64; limit <= 80; limit++ {
		c := small()
		c.ItemLimit = limit
		w := paced(t, c, slow())
		w.stores(set("k", long(limit-59)))
		w.comes("one above", set("k", long(limit-58)), isLarge)
		w.stores(set("k", long(limit-60)))
		w.comes("one above", with(api.Append, "k", "xx"), stays)
		w.stores(with(api.Append, "k", "x"))
		w.holds("k", long(limit-59))
	}
}
