package item_test

import (
	"bytes"
	"math"
	"strconv"
	"testing"

	"granary/api"
	"granary/class"
	"granary/item"
)

// call is one call with its arguments; zero tells whether all that it answered beside the error was zero.
type call struct {
	name string
	run  func(s *class.Set, h api.Handle) (e api.Errno, zero bool)
}

func alone(f func(s *class.Set, h api.Handle) api.Errno) func(*class.Set, api.Handle) (api.Errno, bool) {
	return func(s *class.Set, h api.Handle) (api.Errno, bool) { return f(s, h), true }
}

// telling are the calls that change nothing.
func telling() []call {
	all := []call{
		{"Read", func(s *class.Set, h api.Handle) (api.Errno, bool) {
			it, e := item.Read(s, h)
			return e, same(it, api.Item{})
		}},
		{"Lengths", func(s *class.Set, h api.Handle) (api.Errno, bool) {
			k, v, e := item.Lengths(s, h)
			return e, k == 0 && v == 0
		}},
	}
	for _, which := range []int{math.MinInt, -1, 0, 1, 2, 3, math.MaxInt} {
		all = append(all, call{"Link " + strconv.Itoa(which), func(s *class.Set, h api.Handle) (api.Errno, bool) {
			to, e := item.Link(s, h, which)
			return e, to == 0
		}})
	}
	for name, f := range numbers() {
		all = append(all, call{name, func(s *class.Set, h api.Handle) (api.Errno, bool) {
			n, e := f(s, h)
			return e, n == 0
		}})
	}
	return all
}

// setting are Value and the calls whose names begin with Set, with right and with wrong arguments.
func setting() []call {
	var all []call
	add := func(name string, f func(s *class.Set, h api.Handle) api.Errno) {
		all = append(all, call{name, alone(f)})
	}
	for _, n := range []int{0, 1, 300} {
		add("Value of "+strconv.Itoa(n), func(s *class.Set, h api.Handle) api.Errno { return item.Value(s, h, make([]byte, n)) })
	}
	for _, n := range []uint64{0, 1, 1 << 32, math.MaxUint64} {
		add("SetFlags", func(s *class.Set, h api.Handle) api.Errno { return item.SetFlags(s, h, n) })
		add("SetToken", func(s *class.Set, h api.Handle) api.Errno { return item.SetToken(s, h, n) })
	}
	for _, n := range []int{math.MinInt, -1, 0, 1, 99, math.MaxInt} {
		add("SetExpiry", func(s *class.Set, h api.Handle) api.Errno { return item.SetExpiry(s, h, n) })
		add("SetTouched", func(s *class.Set, h api.Handle) api.Errno { return item.SetTouched(s, h, n) })
		add("SetState", func(s *class.Set, h api.Handle) api.Errno { return item.SetState(s, h, n) })
		add("SetMarks", func(s *class.Set, h api.Handle) api.Errno { return item.SetMarks(s, h, n) })
		for _, to := range []api.Handle{0, 1, 7, math.MaxUint64} {
			add("SetLink", func(s *class.Set, h api.Handle) api.Errno { return item.SetLink(s, h, n, to) })
		}
	}
	return all
}

// laying are Lays of right and of wrong items.
func laying() []call {
	var all []call
	for _, it := range []api.Item{
		{}, {Key: []byte("a"), State: api.Hot}, {Key: []byte("a b"), State: 9},
		{Key: []byte("a"), Value: make([]byte, 300), State: 9}, {Key: []byte("a"), State: 9},
	} {
		all = append(all, call{"Lay", alone(func(s *class.Set, h api.Handle) api.Errno { return item.Lay(s, h, it) })})
	}
	return all
}

func every() []call { return append(append(telling(), setting()...), laying()...) }

// P3.2: without a Set, ErrArg, whatever else is wrong.
func TestNoSet(t *testing.T) {
	for _, x := range every() {
		for _, h := range []api.Handle{0, 1, math.MaxUint64} {
			if e, zero := x.run(nil, h); e != api.ErrArg || !zero {
				t.Errorf("%s of no Set: %v, zeros %v", x.name, e, zero)
			}
		}
	}
	if item.Same(nil, 0, nil) || item.Same(nil, 1, []byte("a")) {
		t.Error("Same of no Set is true")
	}
}

// R1: a Set that New did not give has no good handle.
func TestEmptySet(t *testing.T) {
	for _, x := range every() {
		for _, h := range []api.Handle{0, 1, math.MaxUint64} {
			if e, zero := x.run(&class.Set{}, h); e != api.ErrHandle || !zero {
				t.Errorf("%s of an empty Set: %v, zeros %v", x.name, e, zero)
			}
		}
	}
	if item.Same(&class.Set{}, 1, nil) {
		t.Error("Same of an empty Set is true")
	}
}

// P3.2: of a handle that is not good, ErrHandle, whatever else is wrong, and nothing has changed.
func TestHandleNotGood(t *testing.T) {
	s := made(t, plain())
	h, given := taken(t, s, 1), taken(t, s, 1)
	for _, x := range []api.Handle{h, given} {
		lay(t, s, x, api.Item{Key: []byte("a"), Value: []byte("v"), State: api.Hot, Token: 1, Flags: 2, Expiry: 3, Touched: 4, Marks: 5})
		item.SetLink(s, x, 0, h)
	}
	give(t, s, given)
	again := taken(t, s, 1)
	give(t, s, again)
	// No chunk's number, the middle of a chunk, a free chunk, a free page, generations that were and that were not yet.
	wrong := []api.Handle{0, 2, h + 8, h + 16, 513, 1 << 31, given, again, given + 2<<32, h + 1<<32, h | 1<<63, math.MaxUint64}
	must := image(t, s)
	for _, w := range wrong {
		for _, x := range every() {
			if e, zero := x.run(s, w); e != api.ErrHandle || !zero {
				t.Errorf("%s of the handle %d: %v, zeros %v", x.name, w, e, zero)
			}
		}
		if item.Same(s, w, []byte("a")) || item.Same(s, w, nil) {
			t.Errorf("Same of the handle %d is true", w)
		}
	}
	stands(t, s, must, "calls of handles that are not good")
}

// empties are chunks without an item: one just taken, one whose Lay was refused, one that was given and taken again.
func empties(t *testing.T, s *class.Set) map[string]api.Handle {
	t.Helper()
	fresh, refused, old := taken(t, s, 1), taken(t, s, 1), taken(t, s, 1)
	is(t, "Lay", item.Lay(s, refused, api.Item{Key: []byte("a"), Value: []byte("v"), State: 9, Token: 5}), api.ErrArg)
	lay(t, s, old, api.Item{Key: []byte("a"), Value: []byte("v"), State: api.Cold, Token: 1, Flags: 2, Expiry: 3, Touched: 4, Marks: 5})
	for which := range 3 {
		is(t, "SetLink", item.SetLink(s, old, which, fresh), api.OK)
	}
	give(t, s, old)
	return map[string]api.Handle{"taken": fresh, "refused": refused, "taken again": taken(t, s, 1)}
}

// P3.2: Value and all that set, of a chunk without an item: ErrKey, whatever else is wrong.
func TestSettingWithoutItem(t *testing.T) {
	s := made(t, plain())
	for what, h := range empties(t, s) {
		must := image(t, s)
		for _, x := range setting() {
			if e, _ := x.run(s, h); e != api.ErrKey {
				t.Errorf("%s of a chunk that was %s: %v, not ErrKey", x.name, what, e)
			}
		}
		stands(t, s, must, "what was refused")
	}
}

// P3.4, P3.7: what is told of a chunk without an item is zeros.
func TestTellingWithoutItem(t *testing.T) {
	s := made(t, plain())
	for what, h := range empties(t, s) {
		must := image(t, s)
		tells(t, s, h, api.Item{})
		links(t, s, h, 0, 0, 0)
		for _, which := range []int{-1, 3, math.MinInt, math.MaxInt} {
			_, e := item.Link(s, h, which)
			is(t, "Link "+strconv.Itoa(which)+" of a chunk that was "+what, e, api.ErrArg)
		}
		if item.Same(s, h, nil) || item.Same(s, h, []byte("a")) {
			t.Errorf("a chunk that was %s has a key", what)
		}
		stands(t, s, must, "telling")
	}
}

// P3.4: a field that somebody laid by hand is not told, as long as there is no item.
func TestBytesAreNoItem(t *testing.T) {
	s := made(t, plain())
	h := taken(t, s, 1)
	s.Arena().Fill(placeOf(t, s, h), 12, 1)
	s.Arena().Fill(placeOf(t, s, h)+16, 28, 1)
	s.Arena().Fill(placeOf(t, s, h)+46, 10, 1)
	tells(t, s, h, api.Item{})
	links(t, s, h, 0, 0, 0)
}

// R1, P3.8: whatever bytes somebody laid into a chunk by hand, no call panics or changes another chunk.
func TestGarbledBytes(t *testing.T) {
	for _, b := range []byte{1, 64, 127, 200, 255} {
		for c := range 3 {
			s := made(t, plain())
			before, h, behind := taken(t, s, c), taken(t, s, c), taken(t, s, c)
			place, n := placeOf(t, s, h), s.Chunk(c)
			for _, x := range every() {
				s.Arena().Fill(place, 12, b)
				s.Arena().Fill(place+16, n-16, b)
				must := image(t, s)
				x.run(s, h)
				now := image(t, s)
				if copy(now[place:place+n], must[place:place+n]); !bytes.Equal(now, must) {
					t.Fatalf("%s over bytes of %d has changed another chunk", x.name, b)
				}
				if p, _ := s.Arena().Read(place+12, 4); !bytes.Equal(p, make([]byte, 4)) {
					t.Fatalf("%s over bytes of %d has laid a generation: %v", x.name, b, p)
				}
			}
			tells(t, s, before, api.Item{})
			tells(t, s, behind, api.Item{})
		}
	}
}

// P3.3: the key is judged first, then the size, then the fields.
func TestLayOrder(t *testing.T) {
	s := made(t, plain())
	h := taken(t, s, 0)
	old := api.Item{Key: []byte("old"), Value: []byte("1"), State: api.Warm, Token: 7, Flags: 8, Expiry: 9, Touched: 10, Marks: 11}
	lay(t, s, h, old)
	item.SetLink(s, h, 1, h)
	must := image(t, s)
	keys := map[string]bool{"": false, "a b": false, "\x7f": false, string(bytes.Repeat([]byte("k"), 251)): false, "a": true}
	for key, legal := range keys {
		for _, value := range []int{5, 6, 99, 5000} {
			for _, it := range wrongFields() {
				it.Key, it.Value = []byte(key), make([]byte, value)
				e := item.Lay(s, h, it)
				switch {
				case !legal:
					is(t, "an illegal key", e, api.ErrKey)
				case value > 5:
					is(t, "too long", e, api.ErrLong)
				default:
					is(t, "a wrong field", e, api.ErrArg)
				}
			}
		}
	}
	stands(t, s, must, "what was refused")
	tells(t, s, h, old)
}

// wrongFields are items in each of which one number is out of bounds.
func wrongFields() []api.Item {
	right := api.Item{Key: []byte("a"), State: api.Hot}
	var all []api.Item
	add := func(change func(it *api.Item)) {
		it := right
		change(&it)
		all = append(all, it)
	}
	for _, n := range []int{math.MinInt, -255, -1, 0, 5, 257, 1<<32 + 1, math.MaxInt} {
		add(func(it *api.Item) { it.State = n })
	}
	for _, n := range []int{math.MinInt, -241, -1, 16, 256, 1 << 32, math.MaxInt} {
		add(func(it *api.Item) { it.Marks = n })
	}
	for _, n := range []uint64{1 << 32, 1<<32 + 1, 1 << 63, math.MaxUint64} {
		add(func(it *api.Item) { it.Flags = n })
	}
	for _, n := range []int{math.MinInt, -1 << 32, -1} {
		add(func(it *api.Item) { it.Expiry = n })
		add(func(it *api.Item) { it.Touched = n })
	}
	return all
}

// P3.3: all that is within the bounds is laid.
func TestLayBounds(t *testing.T) {
	s := made(t, plain())
	h := taken(t, s, 0)
	for state := 1; state <= 4; state++ {
		for marks := range 16 {
			for _, flags := range []uint64{0, 1, 1 << 31, 1<<32 - 1} {
				for _, tick := range []int{0, 1, 1 << 40, 1 << 62, math.MaxInt} {
					for _, token := range []uint64{0, 1, 1 << 32, math.MaxUint64} {
						it := api.Item{Key: []byte("k"), Flags: flags, Expiry: tick, Touched: math.MaxInt - tick, Token: token, State: state, Marks: marks}
						lay(t, s, h, it)
						if got, e := item.Read(s, h); e != api.OK || !same(got, it) {
							t.Fatalf("Read: %v, %v, not %v", got, e, it)
						}
					}
				}
			}
		}
	}
}

// P3.6: a field that Lay refuses is refused, and nothing has changed.
func TestSetBounds(t *testing.T) {
	s := made(t, plain())
	h := taken(t, s, 0)
	lay(t, s, h, api.Item{Key: []byte("a"), State: api.Hot})
	must := image(t, s)
	for _, it := range wrongFields() {
		switch {
		case it.State != api.Hot:
			is(t, "SetState", item.SetState(s, h, it.State), api.ErrArg)
		case it.Marks != 0:
			is(t, "SetMarks", item.SetMarks(s, h, it.Marks), api.ErrArg)
		case it.Flags != 0:
			is(t, "SetFlags", item.SetFlags(s, h, it.Flags), api.ErrArg)
		case it.Expiry != 0:
			is(t, "SetExpiry", item.SetExpiry(s, h, it.Expiry), api.ErrArg)
		default:
			is(t, "SetTouched", item.SetTouched(s, h, it.Touched), api.ErrArg)
		}
	}
	stands(t, s, must, "what was refused")
}

// P3.5: a value goes that the chunk has bytes for, and not one byte more, however long the key and the value ahead of it are.
func TestValueBounds(t *testing.T) {
	s := made(t, plain())
	for c := range s.Classes() {
		for _, key := range []int{1, 2, 6} {
			h := taken(t, s, c)
			room := s.Chunk(c) - 58 - key
			it := api.Item{Key: bytes.Repeat([]byte("k"), key), State: api.Hot, Token: 4}
			lay(t, s, h, it)
			for _, n := range []int{room, room + 1, 0, room + 1, 5000, 1 << 21, room} {
				value := bytes.Repeat([]byte{byte(n + 1)}, n)
				must := image(t, s)
				e := item.Value(s, h, value)
				if n > room {
					is(t, "Value too long", e, api.ErrLong)
					stands(t, s, must, "what was refused")
				} else {
					is(t, "Value", e, api.OK)
					it.Value = value
				}
				tells(t, s, h, it)
			}
		}
	}
}

// P3.7: which is judged ahead of to; what is refused leaves the links.
func TestSetLinkOrder(t *testing.T) {
	s := made(t, plain())
	h, other, given := taken(t, s, 1), taken(t, s, 0), taken(t, s, 2)
	give(t, s, given)
	lay(t, s, h, api.Item{Key: []byte("a"), State: api.Hot})
	for which := range 3 {
		is(t, "SetLink", item.SetLink(s, h, which, other), api.OK)
	}
	must := image(t, s)
	wrong := []api.Handle{7, given, other + 8, other + 1<<32, 1 << 32, 2 << 32, math.MaxUint64}
	for _, to := range append(wrong, 0, h, other) {
		for _, which := range []int{math.MinInt, -1, 3, 4, 1 << 32, math.MaxInt} {
			is(t, "SetLink "+strconv.Itoa(which), item.SetLink(s, h, which, to), api.ErrArg)
		}
	}
	for _, to := range wrong {
		for which := range 3 {
			is(t, "SetLink to a handle that is not good", item.SetLink(s, h, which, to), api.ErrHandle)
		}
	}
	stands(t, s, must, "what was refused")
	links(t, s, h, other, other, other)
}
