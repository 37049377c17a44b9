package store_test

import (
	"bytes"
	"reflect"
	"slices"
	"testing"

	"granary/api"
)

// spare is a row of bytes with room behind it, which is filled.
func spare(text string) []byte {
	p := append([]byte(text), "!!!!!!!!!!!!!!!!"...)
	return p[:len(text)]
}

// R2: what is handed in is not changed, its spare room included, and not kept.
func TestHandedIn(t *testing.T) {
	w := opened(t, small())
	for _, v := range storing {
		if v != api.Add {
			w.sets("12", "k")
		} else {
			w.is(verb(api.Delete, "k"), api.Deleted)
		}
		keys := append([]string{"k"}, "spare", "spare")[:1]
		c := api.Command{Verb: v, Keys: keys, Data: spare("34"), Token: w.Issued()}
		w.stores(c)
		if !bytes.Equal(c.Data[:cap(c.Data)][:18], []byte("34!!!!!!!!!!!!!!!!")) || !slices.Equal(keys[:3], []string{"k", "spare", "spare"}) {
			t.Errorf("verb %d has changed what it was given: %q, %q", v, c.Data[:cap(c.Data)], keys[:3])
		}
		must := w.entry("k")
		clear(c.Data[:cap(c.Data)])
		clear(keys[:3])
		w.has(must)
	}
	st := api.State{Now: 1, Issued: 5}
	rows := []api.Row{row("a", 1, 3, 0), row("b", 2, 4, 0)}
	rows[1].Entry.Value = spare("34")
	r := restored(t, small(), slow(), st, rows)
	must := sightOf(r.Store)
	if string(rows[1].Entry.Value[:18]) != "34!!!!!!!!!!!!!!!!" {
		t.Error("Restore has changed what it was given")
	}
	clear(rows[1].Entry.Value[:18])
	clear(rows)
	if got := sightOf(r.Store); !reflect.DeepEqual(got, must) {
		t.Error("Restore has kept what it was given")
	}
}

// wipe changes all that can be reached of an answer's entries.
func wipe(all []api.Entry) {
	all = all[:cap(all)]
	for i := range all {
		v := all[i].Value[:cap(all[i].Value)]
		for j := range v {
			v[j] = '#'
		}
		all[i] = api.Entry{Key: "#"}
	}
}

// R2: what is answered is new memory: the store does not go by it, and no two answers share any.
func TestHandedOut(t *testing.T) {
	w := begun(t)
	w.sets("value", "a", "b")
	w.tells(get("a", "b", "a"), "a", "b", "a")
	must := sightOf(w.Store)
	one, two := w.Do(get("a", "b", "a")), w.Do(get("a", "b", "a"))
	copied := slices.Clone(two.Entries)
	for i := range copied {
		copied[i].Value = slices.Clone(copied[i].Value)
	}
	wipe(one.Entries[:1:1])
	if string(one.Entries[2].Value) != "value" {
		t.Error("two entries of an answer share memory")
	}
	wipe(one.Entries)
	if !reflect.DeepEqual(two.Entries, copied) {
		t.Error("two answers share memory")
	}
	wipe(two.Entries)

	e := w.entry("a")
	wipe([]api.Entry{e})
	rows := w.Rows()
	for i := range rows {
		wipe([]api.Entry{rows[i].Entry})
		rows[i] = api.Row{}
	}
	if got := sightOf(w.Store); !reflect.DeepEqual(got.Rows, must.Rows) {
		t.Errorf("the store goes by what it has answered: %v, not %v", got.Rows, must.Rows)
	}

	w.tells(get("a", "none"), "a")
	why := w.Why()
	why[:cap(why)][0] = 9
	w.why(0, 1)
	kept := w.Why()
	w.tells(get("none", "none"))
	if !slices.Equal(kept, []int{0, 1}) {
		t.Error("a command has changed what Why told")
	}
}

// R2: nil and empty lists are one.
func TestNilAndEmpty(t *testing.T) {
	one, two := begun(t), begun(t)
	one.stores(api.Command{Verb: api.Set, Keys: []string{"k"}})
	two.stores(api.Command{Verb: api.Set, Keys: []string{"k"}, Data: []byte{}})
	if !reflect.DeepEqual(sightOf(one.Store), sightOf(two.Store)) {
		t.Error("no data and empty data differ")
	}
	one.refuses(api.Command{Verb: api.Get, Keys: []string{}}, bad)
	one.is(api.Command{Verb: api.Quit, Keys: []string{}}, api.Nothing)
	r := restored(t, small(), slow(), api.State{Now: 1}, []api.Row{})
	if len(r.Rows()) != 0 || r.Len() != 0 {
		t.Error("there are rows")
	}
}
