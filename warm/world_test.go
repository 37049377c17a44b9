package warm_test

import (
	"encoding/binary"
	"errors"
	"fmt"
	"hash/fnv"
	"math/rand/v2"
	"reflect"
	"slices"
	"strings"
	"testing"

	"granary/api"
	"granary/store"
	"granary/warm"
)

// The files, said anew.
const (
	dataA   = "warm.a"
	dataB   = "warm.b"
	theMeta = "warm.meta"
	newMeta = "warm.meta.new"
)

const plenty = 1 << 20

// small has classes of 64, 128 and 256 bytes; 64, 32 and 16 a page.
func small() api.Config {
	return api.Config{PageSize: 4096, Pages: 4, Factor: 200, MinChunk: 64, ItemLimit: 256, Hot: 30, Warm: 30}
}

// wide has the same classes, and more room.
func wide() api.Config {
	c := small()
	c.PageSize, c.Pages = 1<<16, 8
	return c
}

func pace() api.Pace { return api.Pace{Buckets: 8, Links: 3, Crawl: 4} }

// world is a disk with what a test asks of it.
type world struct {
	*testing.T
	*warm.Disk
}

func disk(t *testing.T, space int) *world {
	t.Helper()
	d, err := warm.NewDisk(space)
	if d == nil || err != nil {
		t.Fatalf("NewDisk(%d): %v", space, err)
	}
	return &world{t, d}
}

// whyOf is the number of an error; OK, if there is none. It must be a *Fault with a number.
func whyOf(t *testing.T, err error) api.Errno {
	t.Helper()
	if err == nil {
		return api.OK
	}
	var f *warm.Fault
	var why api.Errno
	if !errors.As(err, &f) || f == nil || error(f) != err || !errors.As(err, &why) || f.Why != error(why) || why == api.OK {
		t.Fatalf("%#v is no fault", err)
	}
	return why
}

// is: is a call answered so?
func (w *world) is(err error, must api.Errno) {
	w.Helper()
	if got := whyOf(w.T, err); got != must {
		w.Fatalf("%v, not %v", got, must)
	}
}

// fine: are all of these calls not refused?
func (w *world) fine(errs ...error) {
	w.Helper()
	for i, err := range errs {
		if err != nil {
			w.Fatalf("call %d: %v", i, err)
		}
	}
}

// faults: is a call refused just so?
func (w *world) faults(err error, call, name string, why api.Errno) {
	w.Helper()
	w.is(err, why)
	if f := err.(*warm.Fault); *f != (warm.Fault{Call: call, Name: name, Why: why}) {
		w.Fatalf("%#v, not of %s %q", f, call, name)
	}
}

// named: are these the files?
func (w *world) named(must ...string) {
	w.Helper()
	if got := w.Names(); !slices.Equal(got, must) {
		w.Fatalf("Names: %q, not %q", got, must)
	}
}

// holds: are these a file's bytes?
func (w *world) holds(name, must string) {
	w.Helper()
	if got := w.bytes(name); got != must {
		w.Fatalf("%s holds %.200q, not %.200q", name, got, must)
	}
}

func (w *world) bytes(name string) string {
	w.Helper()
	b, err := w.Read(name)
	if err != nil {
		w.Fatalf("Read(%q): %v", name, err)
	}
	return string(b)
}

// loose: is something not safe?
func (w *world) loose(must bool) {
	w.Helper()
	if w.Loose() != must {
		w.Fatalf("Loose: %v", !must)
	}
}

// begun: were so many acts begun?
func (w *world) begun(must int) {
	w.Helper()
	if w.Acts() != must {
		w.Fatalf("Acts: %d, not %d", w.Acts(), must)
	}
}

// plan lays one fault, of the n-th act from now on.
func (w *world) plan(n, kind, part int) {
	w.Plan(api.Fault{Step: w.Acts() + n, Kind: kind, Part: part})
}

// file lays a file down, whole and safe.
func (w *world) file(name, bytes string) {
	w.Helper()
	if slices.Contains(w.Names(), name) {
		w.fine(w.Remove(name))
	}
	w.fine(w.Create(name), w.Append(name, []byte(bytes)), w.Sync(name), w.SyncNames())
}

// picture lays a picture down, the data as the file that the meta names.
func (w *world) picture(meta, data []byte) {
	w.Helper()
	name := dataA
	if len(meta) > 8 && meta[8] == 1 {
		name = dataB
	}
	w.file(name, string(data))
	w.file(theMeta, string(meta))
}

func (w *world) saves(s *store.Store) {
	w.Helper()
	w.fine(warm.Save(w.Disk, s))
}

// loads: does a start tell that? Its store.
func (w *world) loads(now int, must api.Start) *store.Store {
	w.Helper()
	return w.loadsOf(small(), now, must)
}

func (w *world) loadsOf(c api.Config, now int, must api.Start) *store.Store {
	w.Helper()
	s, start, err := warm.Load(w.Disk, c, now)
	if err != nil || s == nil || start != must {
		w.Fatalf("Load: %+v %v, not %+v", start, err, must)
	}
	return s
}

// refusesLoad: is a start refused, with nothing beside the fault?
func (w *world) refusesLoad(c api.Config, now int, call, name string, why api.Errno) {
	w.Helper()
	s, start, err := warm.Load(w.Disk, c, now)
	w.faults(err, call, name, why)
	if s != nil || start != (api.Start{}) {
		w.Fatalf("a refused Load tells %+v", start)
	}
}

// taken is a start that is warm.
func taken(items, left, number int) api.Start {
	return api.Start{Warm: true, Items: items, Left: left, Number: number}
}

// cold is one that is not.
func cold(why api.Errno) api.Start { return api.Start{Why: why} }

func opened(t *testing.T, c api.Config) *store.Store {
	t.Helper()
	s, e := store.New(c)
	if e != api.OK {
		t.Fatalf("New: %v", e)
	}
	return s
}

func restored(t *testing.T, c api.Config, st api.State, rows []api.Row) *store.Store {
	t.Helper()
	s, e := store.Restore(c, pace(), st, rows)
	if e != api.OK {
		t.Fatalf("Restore: %v", e)
	}
	return s
}

// sets stores a value under keys.
func sets(s *store.Store, value string, keys ...string) {
	for _, key := range keys {
		s.Do(api.Command{Verb: api.Set, Keys: []string{key}, Data: []byte(value)})
	}
}

// setTill stores a value for some time.
func setTill(s *store.Store, value string, time int, key string) {
	s.Do(api.Command{Verb: api.Set, Keys: []string{key}, Data: []byte(value), Exptime: time})
}

func flush(s *store.Store, time int) { s.Do(api.Command{Verb: api.FlushAll, Exptime: time}) }

// filled is a store of some keys, each with the value x.
func filled(t *testing.T, keys ...string) *store.Store {
	t.Helper()
	s := opened(t, small())
	sets(s, "x", keys...)
	return s
}

// keysOf are the keys of a store's live items, sorted.
func keysOf(s *store.Store) string {
	var all []string
	for _, r := range s.Rows() {
		all = append(all, r.Entry.Key)
	}
	slices.Sort(all)
	return strings.Join(all, " ")
}

// tokenOf is the token of the next mutation.
func tokenOf(t *testing.T, s *store.Store, key string) uint64 {
	t.Helper()
	sets(s, "y", key)
	e, ok := s.Find(key)
	if !ok {
		t.Fatalf("%q is not stored", key)
	}
	return e.Token
}

// plainly are rows with empty values made nil.
func plainly(rows []api.Row) []api.Row {
	rows = slices.Clone(rows)
	for i := range rows {
		if len(rows[i].Entry.Value) == 0 {
			rows[i].Entry.Value = nil
		}
	}
	return rows
}

func sameRows(a, b []api.Row) bool {
	return len(a) == len(b) && (len(a) == 0 || reflect.DeepEqual(plainly(a), plainly(b)))
}

// sumOf is FNV-1a, said anew.
func sumOf(b []byte) uint64 {
	h := fnv.New64a()
	h.Write(b)
	return h.Sum64()
}

// sealed is a meta whose last 8 bytes are the sum of the 83 ahead.
func sealed(meta []byte) []byte {
	meta = slices.Clone(meta[:83])
	return binary.BigEndian.AppendUint64(meta, sumOf(meta))
}

// saying is what a meta says, said anew.
type saying struct {
	Number                                   uint64
	Which                                    uint8
	PageSize, Pages, Factor, MinChunk, Limit uint32
	Hot, Warm                                uint8
	Now                                      int64
	Issued, Cut                              uint64
	Pending                                  int64
	Items                                    uint32
	Length, Sum                              uint64
}

func (m saying) bytes() []byte {
	b, err := binary.Append(nil, binary.BigEndian, m)
	if err != nil || len(b) != 83 {
		panic(fmt.Sprint(err, len(b)))
	}
	return binary.BigEndian.AppendUint64(b, sumOf(b))
}

// says is what a meta says.
func says(t *testing.T, meta []byte) (m saying) {
	t.Helper()
	if _, err := binary.Decode(meta, binary.BigEndian, &m); err != nil || len(meta) != 91 || !slices.Equal(sealed(meta), meta) {
		t.Fatalf("no meta: %v %v", meta, err)
	}
	return m
}

// of is a meta of a Config, a state and data.
func of(c api.Config, st api.State, items int, data []byte) saying {
	return saying{
		PageSize: uint32(c.PageSize), Pages: uint32(c.Pages), Factor: uint32(c.Factor), MinChunk: uint32(c.MinChunk), Limit: uint32(c.ItemLimit),
		Hot: uint8(c.Hot), Warm: uint8(c.Warm),
		Now: int64(st.Now), Issued: st.Issued, Cut: st.Cut, Pending: int64(st.Pending),
		Items: uint32(items), Length: uint64(len(data)), Sum: sumOf(data),
	}
}

// thing is an item ahead of its key, said anew.
type thing struct {
	Key                 uint8
	Value, Flags        uint32
	Expiry, Touched     int64
	Token               uint64
	Marks, Queue, Class uint8
}

// dataOf are the data of rows, said anew.
func dataOf(rows []api.Row) (b []byte) {
	for _, r := range rows {
		e := r.Entry
		marks := 0
		for i, is := range []bool{r.Active, e.Stale, e.Won, e.Hit} {
			if is {
				marks += 1 << i
			}
		}
		b, _ = binary.Append(b, binary.BigEndian, thing{uint8(len(e.Key)), uint32(len(e.Value)), uint32(e.Flags), int64(e.Expiry), int64(e.Touched), e.Token, uint8(marks), uint8(r.Queue), uint8(r.Class)})
		b = append(append(b, e.Key...), e.Value...)
	}
	return b
}

// made is a picture by hand: its meta is changed ahead of its being sealed.
func made(c api.Config, st api.State, rows []api.Row, change func(m *saying)) (meta, data []byte) {
	data = dataOf(rows)
	m := of(c, st, len(rows), data)
	m.Number = 1
	if change != nil {
		change(&m)
	}
	return m.bytes(), data
}

// row is one of a key, a token and a value, in hot.
func row(key string, token uint64, value string, class int) api.Row {
	return api.Row{Entry: api.Entry{Key: key, Value: []byte(value), Token: token}, Queue: api.Hot, Class: class}
}

// dice throw stores and disks.
type dice struct{ *rand.Rand }

func diceOf(seed uint64) dice { return dice{rand.New(rand.NewPCG(18, seed))} }

// pick is one of some.
func pick[T any](d dice, some ...T) T { return some[d.IntN(len(some))] }

func (d dice) key() string { return fmt.Sprint("k", d.IntN(40)) }

func (d dice) value() string {
	return strings.Repeat(pick(d, "x", "7", "\x00", "\r"), pick(d, 0, 1, 2, 5, d.IntN(190)))
}

// work does some commands, of all that change what a picture holds.
func (d dice) work(s *store.Store, n int) {
	for range n {
		key := []string{d.key()}
		switch d.IntN(16) {
		case 0:
			s.Tick(pick(d, 1, 1, 2, 5))
		case 1:
			s.Mark(key[0], d.IntN(4)<<1)
		case 2:
			s.Stamp(key[0], d.IntN(4)<<1, pick(d, 0, 7), d.IntN(2) == 0)
		case 3:
			s.Do(api.Command{Verb: pick(d, api.Touch, api.Gat), Keys: key, Exptime: pick(d, 0, 3, 9, 2592001)})
		case 4, 5:
			s.Do(api.Command{Verb: pick(d, api.Incr, api.Delete, api.Append), Keys: key, Delta: 5, Data: []byte("1")})
		case 6, 7, 8:
			s.Do(api.Command{Verb: api.Get, Keys: key})
		case 9:
			if d.IntN(6) == 0 {
				flush(s, pick(d, 0, 1, 4, 1000))
			}
		default:
			s.Do(api.Command{Verb: api.Set, Keys: key, Flags: d.Uint64() >> 32, Data: []byte(d.value()), Exptime: pick(d, 0, 0, 0, 2, 6, 30, -1, 2592001)})
		}
	}
}

// decoded is what 91 bytes say.
func decoded(meta []byte) (m saying) {
	binary.Decode(meta, binary.BigEndian, &m)
	return m
}

// tokens is what a meta says was issued; 0, if it does not stand.
func tokens(meta []byte) uint64 {
	if len(meta) != 91 || !slices.Equal(sealed(meta), meta) || meta[8] > 1 {
		return 0
	}
	return decoded(meta).Issued
}

// undone are the rows of data, said anew; false, if these are no items.
func undone(data []byte) (rows []api.Row, ok bool) {
	for len(data) > 0 {
		var x thing
		n, err := binary.Decode(data, binary.BigEndian, &x)
		if err != nil || x.Marks > 15 || len(data)-n < int(x.Key)+int(x.Value) {
			return nil, false
		}
		key := data[n : n+int(x.Key)]
		value := data[n+len(key) : n+len(key)+int(x.Value)]
		e := api.Entry{Key: string(key), Value: value, Flags: uint64(x.Flags), Expiry: int(x.Expiry), Touched: int(x.Touched), Token: x.Token, Stale: x.Marks&2 != 0, Won: x.Marks&4 != 0, Hit: x.Marks&8 != 0}
		rows = append(rows, api.Row{Entry: e, Queue: int(x.Queue), Class: int(x.Class), Active: x.Marks&1 != 0})
		data = data[n+len(key)+len(value):]
	}
	return rows, true
}
