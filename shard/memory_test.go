package shard_test

import (
	"reflect"
	"slices"
	"testing"

	"granary/api"
)

// spare is a row of bytes with room behind it, which is filled.
func spare(text string) []byte {
	return append([]byte(text), "!!!!!!!!!!!!!!!!"...)[:len(text)]
}

// roomy is a command whose lists have room behind them, which is filled.
func roomy(c api.Command) api.Command {
	c.Keys = append(slices.Clone(c.Keys), "spare", "spare", "spare")[:len(c.Keys)]
	c.Data = spare(string(c.Data))
	return c
}

// deep is a copy of commands with all that they hold, and the room behind their lists.
func deep(batch []api.Command) []api.Command {
	batch = slices.Clone(batch[:cap(batch)])
	for i, c := range batch {
		batch[i].Keys = slices.Clone(c.Keys[:cap(c.Keys)])
		batch[i].Data = slices.Clone(c.Data[:cap(c.Data)])
	}
	return batch
}

// R2: what is handed in is not changed, its spare room included, and not kept.
func TestHandedIn(t *testing.T) {
	for _, shards := range []int{1, 2, 64} {
		d := diceOf(uint64(shards), 40)
		d.odd = 10
		w, x := opened(t, small(), shards, 4), shadowOf(t, small(), shards)
		d.token = x.told
		for range 60 {
			var batch []api.Command
			for _, c := range d.batch(30) {
				batch = append(batch, roomy(c))
			}
			batch = append(batch, roomy(set("k1", "12")), roomy(get("k1", "k2", "k1")), roomy(set("spare", "12")))
			batch = batch[:len(batch)-1]
			was := deep(batch)
			w.follows(x, batch)
			if !reflect.DeepEqual(deep(batch), was) {
				t.Fatalf("what is handed in is changed: %s, not %s", shown(batch), shown(was))
			}
			for _, c := range batch {
				clear(c.Keys[:cap(c.Keys)])
				clear(c.Data[:cap(c.Data)])
			}
			clear(batch[:cap(batch)])
		}
		w.reads(get("spare"))
	}
}

// wipe changes all that can be reached of an answer.
func wipe(a *api.Answer) {
	all := a.Entries[:cap(a.Entries)]
	for i := range all {
		v := all[i].Value[:cap(all[i].Value)]
		for j := range v {
			v[j] = '#'
		}
		all[i] = api.Entry{Key: "#"}
	}
	*a = api.Answer{Kind: -1, Text: "#"}
}

// R2: what is answered is new memory: no two answers share any, and the Store does not go by it.
func TestHandedOut(t *testing.T) {
	keys := slices.Concat(oneEach(3), oneEach(3))
	batch := slices.Concat(sets("value", oneEach(3)...), []api.Command{get(keys...), gets(keys...), till(verb(api.Gat, keys...), 5), get("none"), flush(9), get(keys[1], keys[1])})
	must := opened(t, small(), 3, 1).all(batch...)
	w := opened(t, small(), 3, 3)
	for round := range 3 {
		got := w.all(batch...)
		for i := range got {
			if round == 0 && !same(got[i], must[i]) {
				t.Errorf("answers share memory: %v, not %v", got[i], must[i])
			}
			for k := range got[i].Entries {
				one := got[i].Entries[k]
				if string(one.Value) != "value" {
					t.Errorf("%q is %q", one.Key, one.Value)
				}
				v := one.Value[:cap(one.Value)]
				for j := range v {
					v[j] = '#'
				}
			}
			wipe(&got[i])
		}
		clear(got[:cap(got)])
		w.reads(get(oneEach(3)...), oneEach(3)...)
		for _, key := range oneEach(3) {
			w.holds(key, "value")
		}
	}
}

// R2: what was answered stays as it is, whatever comes behind it.
func TestAnswersStay(t *testing.T) {
	w := opened(t, small(), 2, 2)
	keys := oneEach(2)
	w.stores("first", keys...)
	kept := w.all(get(keys...), gets(keys[1], keys[0], keys[1]))
	must := opened(t, small(), 2, 2)
	must.stores("first", keys...)
	was := must.all(get(keys...), gets(keys[1], keys[0], keys[1]))
	for range 50 {
		w.stores("other", keys...)
		w.all(get(keys...), flush(0), get(keys...))
	}
	if !slices.EqualFunc(kept, was, same) {
		t.Errorf("%v, not %v", kept, was)
	}
}

// R2: nil and empty lists are one.
func TestNilAndEmpty(t *testing.T) {
	w := opened(t, small(), 2, 2)
	w.is(api.Command{Verb: api.Set, Keys: []string{"k"}}, api.Stored)
	w.is(api.Command{Verb: api.Set, Keys: []string{"l"}, Data: []byte{}}, api.Stored)
	told := w.one(get("k", "l")).Entries
	if len(told) != 2 || len(told[0].Value) != 0 || len(told[1].Value) != 0 {
		t.Errorf("%v", told)
	}
	w.refuses(api.Command{Verb: api.Get, Keys: []string{}}, bad)
	w.refuses(api.Command{Verb: api.Get}, bad)
	w.is(api.Command{Verb: api.Quit, Keys: []string{}}, api.Nothing)
}
