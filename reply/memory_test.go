package reply_test

import (
	"reflect"
	"slices"
	"testing"

	"granary/api"
	"granary/reply"
)

// roomy is an answer and a command whose lists have room behind them, which is filled.
func roomy(s sample) (api.Command, api.Answer) {
	c, r := s.c, plain(s.r)
	c.Keys = append(slices.Clone(c.Keys), "#", "#")[:len(c.Keys)]
	r.Entries = append(r.Entries, api.Entry{Key: "#"})[:len(r.Entries)]
	for i, e := range r.Entries {
		r.Entries[i].Value = spare(string(e.Value))
	}
	r.Stats = append(r.Stats, api.StatLine{Name: "#"})[:len(r.Stats)]
	return c, r
}

// R2: what is handed in is not changed, its spare room included.
func TestHandedIn(t *testing.T) {
	for _, s := range samples() {
		c, r := roomy(s)
		raw := spare(s.text)
		reply.Fits(c, r)
		reply.Bytes(c, r)
		reply.Read(c, raw)
		for at := range raw {
			reply.Read(c, raw[:at])
		}
		if !isSpare(raw, s.text) {
			t.Fatalf("%q was changed", s.text)
		}
		if k := c.Keys[:len(c.Keys)+1]; !slices.Equal(k, append(slices.Clone(s.c.Keys), "#")) {
			t.Fatalf("the keys are %q", k)
		}
		if l := r.Entries[:len(r.Entries)+1]; l[len(l)-1].Key != "#" {
			t.Fatalf("the entries are %v", l)
		}
		if l := r.Stats[:len(r.Stats)+1]; l[len(l)-1].Name != "#" {
			t.Fatalf("the stats are %v", l)
		}
		for i, e := range r.Entries {
			if !isSpare(e.Value, string(s.r.Entries[i].Value)) {
				t.Fatalf("a value is %q", e.Value)
			}
		}
		if !same(r, s.r) {
			t.Fatalf("%v was changed: %v", s.r, r)
		}
	}
}

// wipe changes all that can be reached of an answer, the room behind it too.
func wipe(r api.Answer) {
	for _, e := range r.Entries {
		for i := range e.Value[:cap(e.Value)] {
			e.Value[:cap(e.Value)][i] = '#'
		}
	}
	for i := range r.Entries[:cap(r.Entries)] {
		r.Entries[:cap(r.Entries)][i] = api.Entry{Key: "#"}
	}
	for i := range r.Stats[:cap(r.Stats)] {
		r.Stats[:cap(r.Stats)][i] = api.StatLine{Name: "#"}
	}
}

// R2: what is read is the caller's own: neither the bytes nor the keys nor another answer hang on it, nor it on them.
func TestReadIsOwn(t *testing.T) {
	for _, s := range samples() {
		c, _ := roomy(s)
		raw := spare(s.text)
		a, _, _ := reply.Read(c, raw)
		b, _, _ := reply.Read(c, raw)
		wipe(a)
		if !same(b, heard(c, s.r)) || !isSpare(raw, s.text) || !slices.Equal(c.Keys, s.c.Keys) {
			t.Fatalf("%q shares memory with its answer", s.text)
		}
		for i := range b.Entries {
			wipe(api.Answer{Entries: slices.Clone(b.Entries[i : i+1])})
			for j, e := range b.Entries[i+1:] {
				if string(e.Value) != string(s.r.Entries[i+1+j].Value) {
					t.Fatalf("%q: two values share memory", s.text)
				}
			}
		}
		d, _, _ := reply.Read(c, raw)
		clear(raw[:cap(raw)])
		clear(c.Keys[:cap(c.Keys)])
		if !same(d, heard(s.c, s.r)) {
			t.Fatalf("%q is kept", s.text)
		}
	}
}

// R2: what is written is the caller's own likewise.
func TestBytesAreOwn(t *testing.T) {
	for _, s := range samples() {
		c, r := roomy(s)
		a, _ := reply.Bytes(c, r)
		b, _ := reply.Bytes(c, r)
		for i := range a[:cap(a)] {
			a[:cap(a)][i] = '#'
		}
		if string(b) != s.text || !same(r, s.r) {
			t.Fatalf("%q shares memory with its answer", s.text)
		}
		for _, e := range r.Entries {
			clear(e.Value[:cap(e.Value)])
		}
		if string(b) != s.text {
			t.Fatalf("%q hangs on what was handed in", s.text)
		}
	}
	for _, w := range []api.Wrong{{Kind: api.WError}, {Kind: api.WClient, Text: "x"}} {
		a := reply.Wrong(w)
		b := slices.Clone(a)
		for i := range a[:cap(a)] {
			a[:cap(a)][i] = '#'
		}
		if c := reply.Wrong(w); !reflect.DeepEqual(c, b) {
			t.Errorf("Wrong(%v) is %q behind a change", w, c)
		}
	}
}

// Read of what is not whole copies nothing: a great value may come in small pieces.
func TestPieces(t *testing.T) {
	c := cmd(api.Gets, "a", "b")
	r := values(token(entry("a", many(1<<20)), 1), token(entry("b", many(1<<20)), 2))
	raw, _ := reply.Bytes(c, r)
	for at := 0; at < len(raw); at += 7 {
		if _, n, e := reply.Read(c, raw[:at]); n != 0 || e != api.OK {
			t.Fatalf("%d bytes: %d, %v", at, n, e)
		}
	}
	reads(t, c, string(raw), r, len(raw))
}
