package store_test

import (
	"fmt"
	"reflect"
	"slices"
	"strings"
	"testing"

	"granary/api"
	"granary/store"
)

// What is refused, said anew.
const (
	bad      = "bad command"
	large    = "object too large for cache"
	noRoom   = "out of memory storing object"
	noNumber = "cannot increment or decrement non-numeric value"
)

// small has classes of 64, 128 and 256 bytes; 64, 32 and 16 a page.
func small() api.Config {
	return api.Config{PageSize: 4096, Pages: 4, Factor: 200, MinChunk: 64, ItemLimit: 256, Hot: 30, Warm: 30}
}

// full is small without a page to spare: each class can have just one.
func full() api.Config {
	c := small()
	c.Pages = 3
	return c
}

// single has classes of 64, 256, 1024 and 4096 bytes; the last one has one chunk a page.
func single() api.Config {
	return api.Config{PageSize: 4096, Pages: 4, Factor: 400, MinChunk: 64, ItemLimit: 4096, Hot: 30, Warm: 30}
}

// slow is a pace without a crawler: what is dead stays till it is met.
func slow() api.Pace { return api.Pace{Buckets: 8, Links: 3} }

// world is a store with what a test asks of it.
type world struct {
	*testing.T
	*store.Store
}

func begun(t *testing.T) *world {
	t.Helper()
	return paced(t, small(), slow())
}

func paced(t *testing.T, c api.Config, p api.Pace) *world {
	t.Helper()
	s, e := store.Paced(c, p)
	if e != api.OK || s == nil {
		t.Fatalf("Paced(%v, %v): %v", c, p, e)
	}
	return &world{t, s}
}

func opened(t *testing.T, c api.Config) *world {
	t.Helper()
	s, e := store.New(c)
	if e != api.OK || s == nil {
		t.Fatalf("New(%v): %v", c, e)
	}
	return &world{t, s}
}

// verb is a command of some keys and no more.
func verb(v int, keys ...string) api.Command { return api.Command{Verb: v, Keys: keys} }

func get(keys ...string) api.Command { return verb(api.Get, keys...) }

// with is a command of one key that has data.
func with(v int, key, data string) api.Command {
	return api.Command{Verb: v, Keys: []string{key}, Data: []byte(data)}
}

func set(key, data string) api.Command { return with(api.Set, key, data) }

func long(n int) string { return strings.Repeat("x", n) }

// till gives a command its time.
func till(c api.Command, exptime int) api.Command {
	c.Exptime = exptime
	return c
}

func cas(key, data string, token uint64) api.Command {
	c := with(api.Cas, key, data)
	c.Token = token
	return c
}

func by(v int, key string, delta uint64) api.Command {
	c := verb(v, key)
	c.Delta = delta
	return c
}

func flush(exptime int) api.Command { return till(verb(api.FlushAll), exptime) }

// told is an answer with empty lists made nil.
func told(a api.Answer) api.Answer {
	if len(a.Entries) == 0 {
		a.Entries = nil
	}
	for i := range a.Entries {
		a.Entries[i] = plainEntry(a.Entries[i])
	}
	if len(a.Stats) == 0 {
		a.Stats = nil
	}
	return a
}

func plainEntry(e api.Entry) api.Entry {
	if len(e.Value) == 0 {
		e.Value = nil
	}
	return e
}

// answers: is a command answered just so?
func (w *world) answers(c api.Command, must api.Answer) {
	w.Helper()
	if got := told(w.Do(c)); !reflect.DeepEqual(got, told(must)) {
		w.Errorf("Do(%v): %v, not %v", c, got, must)
	}
}

// is: is a command answered by this kind, and nothing beside it?
func (w *world) is(c api.Command, kind int) {
	w.Helper()
	w.answers(c, api.Answer{Kind: kind})
}

func (w *world) stores(c api.Command) {
	w.Helper()
	w.is(c, api.Stored)
}

// sets stores values under keys, one behind the other.
func (w *world) sets(value string, keys ...string) {
	w.Helper()
	for _, key := range keys {
		w.stores(set(key, value))
	}
}

func (w *world) refuses(c api.Command, text string) {
	w.Helper()
	w.answers(c, api.Answer{Kind: api.Refused, Text: text})
}

func (w *world) counts(c api.Command, n uint64) {
	w.Helper()
	w.answers(c, api.Answer{Kind: api.Number, Number: n})
}

// tells: does a command tell the items of these keys?
func (w *world) tells(c api.Command, keys ...string) {
	w.Helper()
	a := w.Do(c)
	var got []string
	for _, e := range a.Entries {
		got = append(got, e.Key)
	}
	if a.Kind != api.Values || a.Number != 0 || a.Text != "" || !slices.Equal(got, keys) {
		w.Errorf("Do(%v): %v, not the items of %q", c, a, keys)
	}
}

// why: does Why tell this?
func (w *world) why(must ...int) {
	w.Helper()
	if got := w.Why(); !slices.Equal(got, must) {
		w.Errorf("Why: %d, not %d", got, must)
	}
}

func (w *world) meter(must api.Meter) {
	w.Helper()
	if got := w.Meter(); got != must {
		w.Errorf("Meter: %+v, not %+v", got, must)
	}
}

// ticks moves the clock.
func (w *world) ticks(n int) {
	w.Helper()
	if e := w.Tick(n); e != api.OK {
		w.Errorf("Tick(%d): %v", n, e)
	}
}

// has: is the live item of a key just this one?
func (w *world) has(must api.Entry) {
	w.Helper()
	got, ok := w.Find(must.Key)
	if !ok || !reflect.DeepEqual(plainEntry(got), plainEntry(must)) {
		w.Errorf("Find(%q): %+v, %v; not %+v", must.Key, got, ok, must)
	}
}

// holds: has a key's live item this value?
func (w *world) holds(key, value string) {
	w.Helper()
	if got, ok := w.Find(key); !ok || string(got.Value) != value {
		w.Errorf("Find(%q): %q, %v; not %q", key, got.Value, ok, value)
	}
}

// lacks: have these keys no live item?
func (w *world) lacks(keys ...string) {
	w.Helper()
	for _, key := range keys {
		if got, ok := w.Find(key); ok || !reflect.DeepEqual(got, api.Entry{}) {
			w.Errorf("Find(%q): %v, %v; not none", key, got, ok)
		}
	}
}

// entry is what Find tells of a key.
func (w *world) entry(key string) api.Entry {
	w.Helper()
	e, ok := w.Find(key)
	if !ok {
		w.Errorf("Find(%q): none", key)
	}
	return e
}

// resident: how many items of each class are there?
func (w *world) resident(must ...int) {
	w.Helper()
	sum := 0
	for c, n := range must {
		sum += n
		if got := w.Resident(c); got != n {
			w.Errorf("Resident(%d): %d, not %d", c, got, n)
		}
	}
	if w.Len() != sum {
		w.Errorf("Len: %d, not %d", w.Len(), sum)
	}
}

// sight is all that a store tells but what the last call did.
type sight struct {
	State      api.State
	Rows       []api.Row
	Len, Bytes int
	Classes    [][2]int // of each class: those that are resident, and its quota
}

func sightOf(s *store.Store) sight {
	v := sight{State: s.State(), Rows: s.Rows(), Len: s.Len(), Bytes: s.Bytes()}
	for c := range s.Classes() {
		v.Classes = append(v.Classes, [2]int{s.Resident(c), s.Quota(c)})
	}
	for i := range v.Rows {
		v.Rows[i].Entry = plainEntry(v.Rows[i].Entry)
	}
	if len(v.Rows) == 0 {
		v.Rows = nil
	}
	return v
}

// stands: does a call change nothing that the store tells?
func (w *world) stands(what string, call func()) {
	w.Helper()
	must := sightOf(w.Store)
	call()
	if got := sightOf(w.Store); !reflect.DeepEqual(got, must) {
		w.Errorf("%s has changed what the store tells: %+v, not %+v", what, got, must)
	}
}

// still: does a call leave Meter and Why as they are, too?
func (w *world) still(what string, call func()) {
	w.Helper()
	meter, why := w.Meter(), w.Why()
	w.stands(what, call)
	w.meter(meter)
	w.why(why...)
}

// names are n keys of four bytes.
func names(n int) (all []string) {
	for i := range n {
		all = append(all, fmt.Sprintf("k%03d", i))
	}
	return all
}

// queue is the keys of a queue of class 0, from its head on; an active one's has a star behind it.
func (w *world) queue(kind int) (all string) {
	for _, r := range w.Rows() {
		if r.Class != 0 || r.Queue != kind {
			continue
		}
		all += " " + r.Entry.Key
		if r.Active {
			all += "*"
		}
	}
	return strings.TrimPrefix(all, " ")
}

// queues: are these the queues of class 0, hot, warm and cold?
func (w *world) queues(hot, warm, cold string) {
	w.Helper()
	for i, must := range []string{hot, warm, cold} {
		if got := w.queue(api.Hot + i); got != must {
			w.Errorf("queue %d: %q, not %q", api.Hot+i, got, must)
		}
	}
}
