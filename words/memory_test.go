package words_test

import (
	"bytes"
	"reflect"
	"slices"
	"testing"

	"granary/api"
	"granary/words"
)

const filler = "!!!!!!!!!!!!!!!!"

// spare is a row of bytes with room behind it, which is filled.
func spare(text string) []byte { return append([]byte(text), filler...)[:len(text)] }

// isSpare: is it as it was, the room behind it too?
func isSpare(p []byte, text string) bool {
	return bytes.Equal(p[:len(text)+len(filler)], []byte(text+filler))
}

const mixed = "set a 5 0 3\r\nabc\r\nms b 2 T5 k\r\nhi\r\nget c d\r\nset e 0 0 3\r\nabcd\r\nbogus\r\nset f 0 0 99\r\n"

// R2: what is handed in is not changed, its spare room included.
func TestHandedIn(t *testing.T) {
	for _, text := range append(rowsOfBytes(), mixed) {
		raw := spare(text)
		words.All(raw, 9)
		if !isSpare(raw, text) {
			t.Errorf("All has changed %.80q", text)
		}
	}
	for _, text := range []string{"", "get a b ", "set a 0 0 1 noreply", "ms a 2 T5 k", "set a x 0 1", "bogus", "mg a z", many(3000)} {
		line := spare(text)
		words.Line(line)
		if !isSpare(line, text) {
			t.Errorf("Line has changed %.80q", text)
		}
	}
	for _, c := range []api.Command{verb(api.Set), verb(api.Get), meta(verb(api.MetaSet), "k", "T5"), meta(verb(api.MetaGet), "z", "T5"), quiet(verb(api.Delete))} {
		c.Keys = append([]string{"a"}, "spare", "spare")[:1]
		c.Meta = append(slices.Clone(c.Meta), bare('#'), bare('#'))[:len(c.Meta)]
		c.Data = spare("xyz")
		kept := meta(verb(c.Verb))
		kept.Meta = slices.Clone(c.Meta[:len(c.Meta)+2])
		words.Bytes(c)
		words.Flags(c.Verb, c.Meta)
		if !isSpare(c.Data, "xyz") || !slices.Equal(c.Keys[:3], []string{"a", "spare", "spare"}) || !slices.Equal(c.Meta[:len(c.Meta)+2], kept.Meta) {
			t.Errorf("Bytes has changed %v", c)
		}
	}
}

// wipe changes all that can be reached of a command's lists.
func wipe(c api.Command) {
	for i := range c.Keys[:cap(c.Keys)] {
		c.Keys[:cap(c.Keys)][i] = "#"
	}
	for i := range c.Meta[:cap(c.Meta)] {
		c.Meta[:cap(c.Meta)][i] = bare('#')
	}
	for i := range c.Data[:cap(c.Data)] {
		c.Data[:cap(c.Data)][i] = '#'
	}
}

// copied is a step that shares nothing with another.
func copied(s api.Step) api.Step {
	s.Command.Keys = slices.Clone(s.Command.Keys)
	s.Command.Meta = slices.Clone(s.Command.Meta)
	s.Command.Data = slices.Clone(s.Command.Data)
	return s
}

func copies(l []api.Step) []api.Step {
	var out []api.Step
	for _, s := range l {
		out = append(out, copied(s))
	}
	return out
}

// R2: the steps hang neither on the bytes that were handed in, nor these on the steps, nor one step on another.
func TestStepsAreTheCallers(t *testing.T) {
	raw := []byte(mixed)
	steps, _ := words.All(raw, 9)
	must := copies(steps)
	if len(steps) != 5 {
		t.Fatal(steps)
	}
	for i := range raw {
		raw[i] = 'z'
	}
	if !sameSteps(steps, must) {
		t.Error("the steps hang on the bytes")
	}
	raw = []byte(mixed)
	steps, _ = words.All(raw, 9)
	other, _ := words.All(raw, 9)
	for i := range steps {
		wipe(steps[i].Command)
		if !sameSteps(steps[i+1:], must[i+1:]) {
			t.Error("two steps share memory")
		}
	}
	for i := range steps[:cap(steps)] {
		steps[:cap(steps)][i] = api.Step{From: -1}
	}
	if string(raw) != mixed || !sameSteps(other, must) {
		t.Error("what was told shares memory with the bytes, or with another answer")
	}
	if again, _ := words.All(raw, 9); !sameSteps(again, must) {
		t.Error("an answer hangs on another one")
	}
}

// R2: so it is with Line and Bytes.
func TestAnswersAreTheCallers(t *testing.T) {
	for _, text := range []string{"get a b c", "ms a 2 T5 k", "set a 0 0 5"} {
		line := []byte(text)
		c, _, _ := words.Line(line)
		d, _, _ := words.Line(line)
		must := copied(api.Step{Command: c}).Command
		clear(line)
		if !sameCommand(c, must) {
			t.Errorf("%q: the command hangs on the line", text)
		}
		copy(line, text)
		wipe(c)
		if e, _, _ := words.Line(line); !sameCommand(d, must) || !sameCommand(e, must) || string(line) != text {
			t.Errorf("%q: a command shares memory with another one", text)
		}
	}
	c := data(meta(verb(api.MetaSet, "a"), "k"), "xyz")
	was := copied(api.Step{Command: c}).Command
	one, _ := words.Bytes(c)
	two, _ := words.Bytes(c)
	for i := range one[:cap(one)] {
		one[:cap(one)][i] = '#'
	}
	if string(two) != "ms a 3 k\r\nxyz\r\n" || !sameCommand(c, was) {
		t.Error("Bytes shares memory with its argument, or with another answer")
	}
	wipe(c)
	if string(two) != "ms a 3 k\r\nxyz\r\n" {
		t.Error("Bytes hangs on its argument")
	}
}

// R2: nil and empty lists are one.
func TestNilAndEmpty(t *testing.T) {
	for must, c := range everyVerb() {
		if len(c.Keys) == 0 {
			c.Keys = []string{}
		}
		c.Data, c.Meta = []byte{}, []api.Flag{}
		writes(t, c, must)
	}
}

// R3: with a wrong line, and with an error, every other result is zero.
func TestZeros(t *testing.T) {
	l, left := words.All([]byte("set a x 0 1\r\nx\r\nset a 0 0 1 noreply\r\nxy\r\nget \x7f a\nmg a k z\n"), 9)
	if len(l) != 4 || left != 0 {
		t.Fatal(l, left)
	}
	for _, s := range l {
		if !reflect.DeepEqual(s.Command, api.Command{}) {
			t.Errorf("a wrong step has %v", s.Command)
		}
	}
	if b, e := words.Bytes(data(verb(api.Set, "a b"), "x")); len(b) != 0 || e != api.ErrForm {
		t.Error(b, e)
	}
}
