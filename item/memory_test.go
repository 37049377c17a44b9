package item_test

import (
	"bytes"
	"testing"

	"granary/api"
	"granary/item"
)

// scribble writes over a list, its spare room too.
func scribble(p []byte) {
	p = p[:cap(p)]
	for i := range p {
		p[i] ^= 0xff
	}
}

// R2: what Read answers shares nothing with the arena, with another answer, or key with value.
func TestAnswersAreNew(t *testing.T) {
	s := made(t, plain())
	h := taken(t, s, 1)
	for _, value := range []string{"", "v", "a value of some length"} {
		it := api.Item{Key: []byte("key"), Value: []byte(value), State: api.Hot}
		lay(t, s, h, it)
		must := image(t, s)
		one, _ := item.Read(s, h)
		two, _ := item.Read(s, h)
		scribble(one.Key)
		if string(one.Value) != value {
			t.Errorf("key and value of one answer share memory: %q", one.Value)
		}
		scribble(one.Value)
		if !same(two, it) {
			t.Errorf("two answers share memory: %v", two)
		}
		scribble(two.Value)
		if string(two.Key) != "key" {
			t.Errorf("value and key of one answer share memory: %q", two.Key)
		}
		scribble(two.Key)
		stands(t, s, must, "scribbling over answers")
	}
}

// R2: what was answered stays, whatever is laid later.
func TestAnswersStay(t *testing.T) {
	s := made(t, plain())
	h := taken(t, s, 1)
	it := api.Item{Key: []byte("key"), Value: []byte("value"), State: api.Hot, Token: 3}
	lay(t, s, h, it)
	got, _ := item.Read(s, h)
	item.Value(s, h, []byte("other"))
	item.SetToken(s, h, 4)
	lay(t, s, h, api.Item{Key: []byte("yek"), Value: []byte("eulav"), State: api.Cold})
	give(t, s, h)
	if !same(got, it) {
		t.Errorf("an answer has become %v", got)
	}
}

// R2: what is handed in is neither changed nor kept, nor is its spare room.
func TestArgumentsAreLeft(t *testing.T) {
	s := made(t, plain())
	h := taken(t, s, 1)
	room := []byte("keyvaluespare")
	key, value := room[:3], room[3:8]
	left := func(what string) {
		t.Helper()
		if string(room) != "keyvaluespare" {
			t.Fatalf("%s has changed what it was handed: %q", what, room)
		}
	}
	item.Legal(key)
	left("Legal")
	lay(t, s, h, api.Item{Key: key, Value: value, State: api.Hot})
	left("Lay")
	is(t, "Lay", item.Lay(s, h, api.Item{Key: key, Value: value}), api.ErrArg)
	left("a Lay that is refused")
	is(t, "Value", item.Value(s, h, room[3:8]), api.OK)
	left("Value")
	item.Same(s, h, key)
	left("Same")
	must := image(t, s)
	scribble(room)
	stands(t, s, must, "scribbling over arguments")
	if got, _ := item.Read(s, h); string(got.Key) != "key" || string(got.Value) != "value" {
		t.Errorf("an argument was kept: %v", got)
	}
}

// R2: nil and empty lists are one.
func TestNilIsEmpty(t *testing.T) {
	s := made(t, plain())
	h, other := taken(t, s, 0), taken(t, s, 0)
	lay(t, s, h, api.Item{Key: []byte("k"), State: api.Hot})
	lay(t, s, other, api.Item{Key: []byte("k"), Value: []byte{}, State: api.Hot})
	a, _ := s.Arena().Read(placeOf(t, s, h), 64)
	b, _ := s.Arena().Read(placeOf(t, s, other), 64)
	if !bytes.Equal(a, b) {
		t.Error("a value of nil is laid otherwise than an empty one")
	}
	for _, value := range [][]byte{nil, {}} {
		is(t, "Value", item.Value(s, h, value), api.OK)
		tells(t, s, h, api.Item{Key: []byte("k"), State: api.Hot})
	}
	if item.Same(s, h, nil) != item.Same(s, h, []byte{}) {
		t.Error("Same of nil is not that of an empty key")
	}
}

// R4: two Sets know nothing of each other.
func TestApart(t *testing.T) {
	one, two := made(t, plain()), made(t, plain())
	h, g := taken(t, one, 0), taken(t, two, 0)
	lay(t, one, h, api.Item{Key: []byte("a"), State: api.Hot})
	tells(t, two, g, api.Item{})
	lay(t, two, g, api.Item{Key: []byte("b"), State: api.Cold})
	if !item.Same(one, h, []byte("a")) || !item.Same(two, g, []byte("b")) {
		t.Error("two Sets share an item")
	}
}
