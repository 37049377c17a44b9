package meta_test

import (
	"reflect"
	"slices"
	"testing"

	"granary/api"
	"granary/meta"
)

// spare is a row of bytes with room behind it, which is filled.
func spare(text string) []byte {
	p := append([]byte(text), "!!!!!!!!!!!!!!!!"...)
	return p[:len(text)]
}

// roomy is a command whose lists have room behind them, which is filled.
func roomy(c api.Command) api.Command {
	c.Keys = append(slices.Clone(c.Keys), "#", "#")[:len(c.Keys)]
	c.Meta = append(slices.Clone(c.Meta), api.Flag{Letter: '#'}, api.Flag{Letter: '#'})[:len(c.Meta)]
	c.Data = spare(string(c.Data))
	return c
}

// wiped changes all that can be reached of a command.
func wiped(c api.Command) {
	clear(c.Keys[:cap(c.Keys)])
	clear(c.Meta[:cap(c.Meta)])
	clear(c.Data[:cap(c.Data)])
}

// samples are commands that lead to lines of all kinds, if they are done one behind the other.
func samples() []string {
	return []string{
		"ms a 3 T30 F7 c k Oxy / abc", "mg a v k f c t s h l Oxy", "ms a 2 MA k / de", "ms a 2 MP C2 c / 00", "ms a 1 C1 I k / 7", "mg a v k", "mg a v k R9", "ma a v k c t D5", "ma a v T9 t C5",
		"ma n N30 J41 v k c", "ma n v MD", "mg b N30 v k t", "mg b v", "ms a 1 ME k / x", "ms a 1 C9 k / x", "ms q 1 C9 k Oz / x", "md a C77 k", "md a I c T9", "mg a v", "md a k", "md a k", "mg a k", "mg a q", "mn",
		"ms a 198 / " + long(198), "ms a 0 Large", "ms s 1 / x", "ma s v",
	}
}

// R2: what is handed in is not changed, its spare room included, and not kept.
func TestHandedIn(t *testing.T) {
	got, must := opened(t), opened(t)
	for _, text := range samples() {
		c := roomy(read(t, text))
		same := roomy(read(t, text))
		a := meta.Do(got, c)
		whole := func(c api.Command) []any {
			return []any{c.Keys[:len(c.Keys)+2], c.Meta[:len(c.Meta)+2], string(c.Data[:len(c.Data)+16])}
		}
		if !reflect.DeepEqual(whole(c), whole(same)) {
			t.Errorf("%.40q has changed what it was given: %v", text, whole(c))
		}
		wiped(c)
		if line, answer := calls(t, must, text), shown(t, a); line != answer {
			t.Errorf("%.40q is answered %q, not %q", text, answer, line)
		}
		alike(t, text, got, must)
	}
}

// R2: what is answered is new memory: the store does not go by it, and no two answers share any.
func TestHandedOut(t *testing.T) {
	got, must := opened(t), opened(t)
	var kept []api.Answer
	var lines []string
	for _, text := range samples() {
		a, line := meta.Do(got, read(t, text)), calls(t, must, text)
		for _, e := range a.Entries[:cap(a.Entries)] {
			room := e.Value[:cap(e.Value)]
			for i := range room[len(e.Value):] {
				room[len(e.Value)+i] = '#'
			}
		}
		kept, lines = append(kept, a), append(lines, line)
		alike(t, text, got, must)
	}
	for i, a := range kept {
		if line := shown(t, a); line != lines[i] { // shown takes the value away
			t.Errorf("an answer is %q by now, which was %q", line, lines[i])
		}
	}
	// Each value is the caller's own.
	s := after(t, opened(t), "set a 5 60 5 / value")
	one, two := meta.Do(s, read(t, "mg a v")), meta.Do(s, read(t, "mg a v"))
	for i := range one.Entries[0].Value {
		one.Entries[0].Value[i] = '#'
	}
	if string(two.Entries[0].Value) != "value" {
		t.Error("two answers share memory")
	}
	runs(t, s, "mg a v", "VA 5: value", "get a", "a=value END")
	for _, text := range []string{"ma n N0 J77 v", "ma n v"} {
		a := meta.Do(s, read(t, text))
		clear(a.Entries[0].Value[:cap(a.Entries[0].Value)])
	}
	runs(t, s, "ma n v", "VA 2: 79")
}

// R2: nil and empty lists are one.
func TestNilAndEmpty(t *testing.T) {
	got, must := opened(t), opened(t)
	for _, verb := range metas() {
		for range 2 {
			a := meta.Do(got, api.Command{Verb: verb, Keys: []string{"a"}, Meta: []api.Flag{}, Data: []byte{}})
			b := meta.Do(must, api.Command{Verb: verb, Keys: []string{"a"}})
			if shown(t, a) != shown(t, b) {
				t.Errorf("verb %d: %v and %v", verb, a, b)
			}
			alike(t, "an empty list", got, must)
		}
	}
}
