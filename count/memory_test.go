package count_test

import (
	"math/rand/v2"
	"reflect"
	"slices"
	"testing"

	"granary/api"
	"granary/count"
)

// roomy gives a call all lists, with room behind them, which is filled.
func roomy(x call) call {
	x.c.Keys = append(slices.Clone(x.c.Keys), "a", "#", "#")[:len(x.c.Keys)+1]
	x.c.Data = []byte("data##")[:4]
	x.c.Meta = append(slices.Clone(x.c.Meta), api.Flag{Letter: '#'}, api.Flag{Letter: '#'})[:len(x.c.Meta)]
	x.a.Entries = []api.Entry{{Key: "a", Value: []byte("v##")[:1]}, {Key: "#"}}[:1]
	x.a.Stats = []api.StatLine{{Name: "a", Value: 1}, {Name: "#"}}[:1]
	x.why = append(slices.Clone(x.why), 0, 0, 0)[:len(x.why)]
	return x
}

// whole is all that can be reached of a call, the room behind its lists too.
func whole(x call) []any {
	e := x.a.Entries[:2]
	v := e[0].Value[:3]
	return []any{x, x.c.Keys[:len(x.c.Keys)+2], x.c.Data[:6], x.c.Meta[:len(x.c.Meta)+2], e, v, x.a.Stats[:2], x.why[:len(x.why)+3]}
}

// wipe changes all that can be reached of a call.
func wipe(x call) {
	clear(x.c.Keys[:cap(x.c.Keys)])
	clear(x.c.Data[:cap(x.c.Data)])
	for i := range x.c.Meta[:cap(x.c.Meta)] {
		x.c.Meta[:cap(x.c.Meta)][i] = api.Flag{Letter: 'M', Arg: "D"}
	}
	clear(x.a.Entries[0].Value[:cap(x.a.Entries[0].Value)])
	clear(x.a.Entries[:cap(x.a.Entries)])
	clear(x.a.Stats[:cap(x.a.Stats)])
	for i := range x.why[:cap(x.why)] {
		x.why[:cap(x.why)][i] = 3
	}
}

// R2: what is handed in is not changed, its spare room included, and not kept.
func TestHandedIn(t *testing.T) {
	r := rand.New(rand.NewPCG(15, 4))
	b, must := count.New(), sums{}
	for range 3000 {
		x := anyCall(r)
		got, same := roomy(x), roomy(x)
		got.on(b)
		if !reflect.DeepEqual(whole(got), whole(same)) {
			t.Fatalf("%+v was changed: %+v", whole(same), whole(got))
		}
		wipe(got)
		must.count(x)
		if s := read(b); s != must {
			t.Fatalf("%#v: %q, not %q", x, shown(s), shown(must))
		}
	}
}

// R2: what Stats tells is the caller's own.
func TestHandedOut(t *testing.T) {
	b := laid(every(6))
	one, two := b.Stats(), b.Stats()
	room := one[:cap(one)]
	for i := range room {
		room[i] = api.StatLine{Name: "#", Value: 99}
	}
	for i, l := range two {
		if l != (api.StatLine{Name: count.Name(i + 1), Value: 6}) {
			t.Fatalf("line %d is %v behind a change of another answer", i, l)
		}
	}
	holds(t, b, every(6))
	b.Add(1, 1)
	b.Reset()
	if two[0].Value != 6 || two[29].Value != 6 {
		t.Errorf("an answer goes with the board: %v", two)
	}
	_ = append(two, api.StatLine{Name: "#"})
	holds(t, b, sums{25: 6, 26: 6, 28: 6})
}

// R2: nil and empty lists are one.
func TestNilAndEmpty(t *testing.T) {
	for _, verb := range verbs() {
		for _, kind := range answers() {
			x := of(verb, kind)
			x.why, x.c.Meta = []int{}, []api.Flag{}
			b := count.New()
			x.on(b)
			holds(t, b, sumsOfCalls(of(verb, kind)))
		}
	}
}

// R4: boards that were made apart know nothing of each other.
func TestApart(t *testing.T) {
	one, two := count.New(), count.New()
	one.Add(1, 5)
	of(api.Get, api.Values, 0).on(one)
	has(t, two, "")
	two.Set(25, 7)
	two.Reset()
	has(t, one, "cmd_get 6 get_hits")
	has(t, two, "curr_items 7")
	has(t, count.New(), "")
}
