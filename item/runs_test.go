package item_test

import (
	"bytes"
	"testing"

	"granary/api"
	"granary/item"
)

func TestRunSize(t *testing.T) {
	for _, x := range []struct {
		key, value, n int
		e             api.Errno
	}{
		{1, 0, 59, api.OK}, {250, 1 << 20, 1048884, api.OK}, {251, 0, 0, api.ErrKey}, {0, 5, 0, api.ErrKey},
		{0, -1, 0, api.ErrKey}, {1, -1, 0, api.ErrLong}, {1, 1<<20 + 1, 0, api.ErrLong},
	} {
		if n, e := item.Size(x.key, x.value); n != x.n || e != x.e {
			t.Errorf("Size(%d, %d): %d, %v, not %d, %v", x.key, x.value, n, e, x.n, x.e)
		}
	}
}

func TestRunLay(t *testing.T) {
	s := made(t, plain())
	h := taken(t, s, 0)
	five := api.Item{Key: []byte("a"), Value: []byte("12345"), State: api.Warm, Token: 7}
	is(t, "Lay of 64 bytes", item.Lay(s, h, five), api.OK)
	tells(t, s, h, five)
	must := image(t, s)
	is(t, "Lay of 65 bytes", item.Lay(s, h, api.Item{Key: []byte("a"), Value: []byte("123456"), State: api.Hot}), api.ErrLong)
	is(t, "no key", item.Lay(s, h, api.Item{State: 9}), api.ErrKey)
	is(t, "too long", item.Lay(s, h, api.Item{Key: []byte("a"), Value: make([]byte, 99), State: 9}), api.ErrLong)
	is(t, "state 0", item.Lay(s, h, api.Item{Key: []byte("a")}), api.ErrArg)
	stands(t, s, must, "what was refused")
	tells(t, s, h, five)
}

func TestRunValue(t *testing.T) {
	s := made(t, plain())
	h, other := taken(t, s, 0), taken(t, s, 1)
	it := api.Item{Key: []byte("n"), Flags: 3, Token: 8, State: api.Cold}
	lay(t, s, h, it)
	item.SetLink(s, h, 0, other)
	item.SetLink(s, h, 2, h)
	for _, v := range []string{"99", "100"} {
		is(t, "Value", item.Value(s, h, []byte(v)), api.OK)
		it.Value = []byte(v)
		tells(t, s, h, it)
		links(t, s, h, other, 0, h)
	}
	if p, _ := s.Arena().Read(placeOf(t, s, h)+56, 6); string(p) != "n100\r\n" {
		t.Errorf("the bytes behind the header are %q", p)
	}
}

func TestRunNoItem(t *testing.T) {
	s := made(t, plain())
	h := taken(t, s, 0)
	tells(t, s, h, api.Item{})
	if item.Same(s, h, nil) || item.Same(s, h, []byte{}) || item.Same(s, h, []byte("a")) {
		t.Error("a chunk without an item has a key")
	}
	is(t, "Value", item.Value(s, h, nil), api.ErrKey)
	is(t, "SetToken", item.SetToken(s, h, 1), api.ErrKey)
}

func TestRunSet(t *testing.T) {
	s := made(t, plain())
	h := taken(t, s, 0)
	lay(t, s, h, api.Item{Key: []byte("a"), State: api.Hot})
	must := image(t, s)
	is(t, "SetMarks 16", item.SetMarks(s, h, 16), api.ErrArg)
	is(t, "SetState 0", item.SetState(s, h, 0), api.ErrArg)
	is(t, "SetState 5", item.SetState(s, h, 5), api.ErrArg)
	is(t, "SetFlags 2^32", item.SetFlags(s, h, 1<<32), api.ErrArg)
	is(t, "SetExpiry -1", item.SetExpiry(s, h, -1), api.ErrArg)
	stands(t, s, must, "what was refused")
}

func TestRunGive(t *testing.T) {
	s := made(t, plain())
	h := taken(t, s, 0)
	lay(t, s, h, api.Item{Key: []byte("a"), State: api.Hot})
	give(t, s, h)
	if it, e := item.Read(s, h); e != api.ErrHandle || !same(it, api.Item{}) {
		t.Errorf("Read: %v, %v", it, e)
	}
	if item.Same(s, h, []byte("a")) {
		t.Error("a chunk that was given has its key")
	}
}

func TestRunLinks(t *testing.T) {
	s := made(t, plain())
	h, h2 := taken(t, s, 1), taken(t, s, 0)
	lay(t, s, h, api.Item{Key: []byte("a"), State: api.Hot})
	is(t, "SetLink 0", item.SetLink(s, h, 0, h2), api.OK)
	links(t, s, h, h2, 0, 0)
	give(t, s, h2)
	if to, e := item.Link(s, h, 0); to != 0 || e != api.ErrHandle {
		t.Errorf("Link to a chunk that is not taken: %d, %v", to, e)
	}
	h3 := taken(t, s, 0)
	if h3 == h2 {
		t.Fatal("the handle is the old one")
	}
	links(t, s, h, h3, 0, 0)
	is(t, "SetLink 3", item.SetLink(s, h, 3, 0), api.ErrArg)
	is(t, "SetLink to 7", item.SetLink(s, h, 1, 7), api.ErrHandle)
	if to, e := item.Link(s, h, -1); to != 0 || e != api.ErrArg {
		t.Errorf("Link -1: %d, %v", to, e)
	}
	is(t, "SetLink 1", item.SetLink(s, h, 1, h), api.OK)
	links(t, s, h, h3, h, 0)
	is(t, "SetLink 1 to none", item.SetLink(s, h, 1, 0), api.OK)
	links(t, s, h, h3, 0, 0)
}

func TestRunLayAnew(t *testing.T) {
	s := made(t, plain())
	h := taken(t, s, 1)
	lay(t, s, h, api.Item{Key: []byte("a"), State: api.Hot})
	for which := range 3 {
		is(t, "SetLink", item.SetLink(s, h, which, h), api.OK)
	}
	links(t, s, h, h, h, h)
	lay(t, s, h, api.Item{Key: []byte("b"), State: api.Warm})
	links(t, s, h, 0, 0, 0)
}

func TestExamples(t *testing.T) {
	s := made(t, plain())
	h := taken(t, s, 0)
	if placeOf(t, s, h) != 0 {
		t.Fatal("the chunk is not at place 0")
	}
	lay(t, s, h, api.Item{Key: []byte("k"), Value: []byte("v"), Flags: 5, Token: 258, State: api.Hot})
	all := image(t, s)
	for at, b := range map[int]byte{39: 2, 38: 1, 43: 5, 44: 1, 45: 1, 46: 0, 51: 1} {
		if all[at] != b {
			t.Errorf("byte %d is %d, not %d", at, all[at], b)
		}
	}
	if !bytes.Equal(all[56:60], []byte{'k', 'v', 13, 10}) {
		t.Errorf("from 56 on: %q", all[56:60])
	}
	if k, v, e := item.Lengths(s, h); k != 1 || v != 1 || e != api.OK {
		t.Errorf("Lengths: %d, %d, %v", k, v, e)
	}
	is(t, "SetMarks", item.SetMarks(s, h, api.MarkHit+api.MarkWon), api.OK)
	if b := image(t, s)[46]; b != 12 {
		t.Errorf("byte 46 is %d, not 12", b)
	}
}
