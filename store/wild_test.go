package store_test

import (
	"math"
	"math/rand"
	"reflect"
	"slices"
	"testing"

	"granary/api"
	"granary/store"
)

// wild are numbers of every kind.
var wild = []int{0, 1, -1, 2, 3, 5, 60, 64, 2592000, 2592001, 1 << 32, 1<<40 - 1, 1 << 40, math.MaxInt, math.MinInt}

func anyInt(r *rand.Rand) int { return wild[r.Intn(len(wild))] }

func anyKey(r *rand.Rand) string {
	return []string{"", "a", "b", "key", "a b", long(250), long(251), "\xff", "\x00"}[r.Intn(9)]
}

func anyBytes(r *rand.Rand) []byte {
	return slices.Repeat([]byte{"19ax"[r.Intn(4)]}, []int{0, 1, 2, 20, 21, 100, 197, 198, 4096, 1<<20 + 1}[r.Intn(10)])
}

func anyRow(r *rand.Rand) api.Row {
	return api.Row{
		Entry: api.Entry{Key: anyKey(r), Value: anyBytes(r), Flags: uint64(anyInt(r)), Expiry: anyInt(r), Token: uint64(anyInt(r)), Touched: anyInt(r), Won: r.Intn(2) == 0},
		Queue: anyInt(r), Class: anyInt(r), Active: r.Intn(2) == 0,
	}
}

// whole: is what is told of classes and items in keeping with each other (W6)?
func (w *world) whole() {
	w.Helper()
	sum := 0
	for c := range w.Classes() {
		if w.Resident(c) > w.Quota(c) {
			w.Fatalf("class %d has %d items of %d", c, w.Resident(c), w.Quota(c))
		}
		sum += w.Resident(c)
	}
	if w.Len() != sum || len(w.Rows()) > sum || w.Bytes() < 59*sum {
		w.Fatalf("%d items, %d by class, %d rows, %d bytes", w.Len(), sum, len(w.Rows()), w.Bytes())
	}
}

// R1: every call ends, and none panics, whatever it is given.
func TestWild(t *testing.T) {
	r := rand.New(rand.NewSource(5))
	w := opened(t, full())
	for i := range 6000 {
		c := api.Command{Verb: r.Intn(22) - 1, Flags: uint64(r.Intn(3)) << 31, Exptime: anyInt(r), Token: uint64(anyInt(r)), Delta: uint64(anyInt(r)), Data: anyBytes(r), Large: r.Intn(20) == 0}
		for range r.Intn(3) {
			c.Keys = append(c.Keys, anyKey(r))
		}
		w.Do(c)
		key := anyKey(r)
		w.Mark(key, anyInt(r))
		w.Find(key)
		w.Resident(anyInt(r))
		w.Quota(anyInt(r))
		if i%3 == 0 {
			w.Stamp(key, anyInt(r), anyInt(r), i%2 == 0)
		}
		if n := anyInt(r); n < 100 {
			w.Tick(n)
		}
		w.whole()
	}
	w.Tick(1<<40 - w.Now())
	w.stores(set("a", "x"))
	w.whole()

	for range 3000 {
		st := api.State{Now: anyInt(r), Issued: uint64(anyInt(r)), Cut: uint64(anyInt(r)), Pending: anyInt(r)}
		if r.Intn(2) == 0 {
			st = api.State{Now: 1, Issued: 70}
		}
		s, e := store.Restore(full(), api.Pace{Buckets: 8, Links: 3, Crawl: 4}, st, []api.Row{anyRow(r), anyRow(r)})
		if (s == nil) != (e != api.OK) {
			t.Fatalf("Restore: %v, %v", s, e)
		}
		if s != nil {
			(&world{t, s}).whole()
		}
	}
}

// The face is the document's: whoever holds a store reaches none of its parts.
func TestFace(t *testing.T) {
	must := []string{"Bytes", "Classes", "Config", "Do", "Find", "Issued", "Len", "Mark", "Meter", "Now", "Quota", "Resident", "Rows", "Stamp", "State", "Tick", "Why"}
	var got []string
	face := reflect.TypeOf(&store.Store{})
	for i := range face.NumMethod() {
		got = append(got, face.Method(i).Name)
	}
	if !slices.Equal(got, must) {
		t.Errorf("methods %q, not %q", got, must)
	}
	if n := len(reflect.VisibleFields(face.Elem())); n != 1 || face.Elem().Field(0).IsExported() {
		t.Errorf("%d fields", n)
	}
}
