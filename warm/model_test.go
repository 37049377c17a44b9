package warm_test

import (
	"fmt"
	"maps"
	"math"
	"slices"
	"strings"
	"testing"

	"granary/api"
)

// plainFile is a file, as the chapter says it.
type plainFile struct {
	bytes string
	safe  int
}

// plainDisk is a disk as the chapter says it: all files that ever were, and all names as they were behind each change.
type plainDisk struct {
	space, acts int
	power       bool
	plan        []api.Fault
	files       []*plainFile
	past        []map[string]int // the first are the safe names, the last the names
}

// act is one act as data.
type act struct {
	call, name, to, p string
}

func (x *plainDisk) names() map[string]int { return x.past[len(x.past)-1] }

// change tells the names behind a change.
func (x *plainDisk) change() map[string]int {
	n := maps.Clone(x.names())
	x.past = append(x.past, n)
	return n
}

func legal(name string) bool { return 1 <= len(name) && len(name) <= 32 }

// room may be below 0.
func (x *plainDisk) room() int {
	n := x.space
	for _, i := range x.names() {
		n -= len(x.files[i].bytes)
	}
	return n
}

// self is what comes of an act that no fault bears on.
func (x *plainDisk) self(a act) api.Errno {
	if a.call == "syncnames" {
		x.past = x.past[len(x.past)-1:]
		return api.OK
	}
	if !legal(a.name) || a.call == "rename" && !legal(a.to) {
		return api.ErrName
	}
	i, ok := x.names()[a.name]
	if a.call == "create" {
		if ok {
			return api.ErrExists
		}
		x.change()[a.name] = len(x.files)
		x.files = append(x.files, &plainFile{})
		return api.OK
	}
	if !ok {
		return api.ErrMissing
	}
	f := x.files[i]
	switch a.call {
	case "append":
		if room := x.room(); room < len(a.p) {
			f.bytes += a.p[:max(room, 0)]
			return api.ErrSpace
		}
		f.bytes += a.p
	case "sync":
		f.safe = len(f.bytes)
	case "remove":
		delete(x.change(), a.name)
	case "rename":
		if a.name != a.to {
			n := x.change()
			delete(n, a.name)
			n[a.to] = i
		}
	}
	return api.OK
}

// do is what comes of an act.
func (x *plainDisk) do(a act) api.Errno {
	x.acts++
	if !x.power {
		return api.ErrDown
	}
	var f api.Fault
	if i := slices.IndexFunc(x.plan, func(f api.Fault) bool { return f.Step == x.acts }); i >= 0 {
		f = x.plan[i]
	}
	switch {
	case f.Kind == api.Ahead, f.Kind == api.Tear && a.call != "append":
		return api.ErrIO
	case f.Kind == api.Room:
		return api.ErrSpace
	case f.Kind == api.Lose:
		x.power = false
		return api.ErrDown
	case f.Kind == api.Tear:
		a.p = a.p[:min(max(f.Part, 0), len(a.p))]
	}
	e := x.self(a)
	switch {
	case f.Kind == api.Late:
		x.power = false
		return api.ErrDown
	case e == api.OK && (f.Kind == api.Behind || f.Kind == api.Tear):
		return api.ErrIO
	}
	return e
}

func (x *plainDisk) loose() bool {
	for _, i := range x.names() {
		if x.files[i].safe < len(x.files[i].bytes) {
			return true
		}
	}
	return len(x.past) > 1
}

func (x *plainDisk) restart(c api.Cut) {
	n := x.past[min(max(c.Names, 0), len(x.past)-1)]
	x.past = []map[string]int{n}
	for i, f := range x.files {
		more := 0
		if i < len(c.Bytes) && c.Bytes[i] > 0 {
			more = min(c.Bytes[i], len(f.bytes)-f.safe)
		}
		f.bytes = f.bytes[:f.safe+more]
		f.safe = len(f.bytes)
	}
	x.power, x.plan = true, nil
}

// does does an act on a disk.
func (w *world) does(a act) error {
	switch a.call {
	case "create":
		return w.Create(a.name)
	case "append":
		return w.Append(a.name, []byte(a.p))
	case "sync":
		return w.Sync(a.name)
	case "rename":
		return w.Rename(a.name, a.to)
	case "remove":
		return w.Remove(a.name)
	}
	return w.SyncNames()
}

// pool are the names that a random script uses.
func pool() []string {
	return []string{"a", "b", "c", "\x00\xff", strings.Repeat("z", 32), "", strings.Repeat("z", 33)}
}

// like: does a disk tell what the plain one does?
func (w *world) like(x *plainDisk) {
	w.Helper()
	if w.Acts() != x.acts || w.Power() != x.power || w.Loose() != x.loose() {
		w.Fatalf("Acts %d, Power %v, Loose %v; not %d, %v, %v", w.Acts(), w.Power(), w.Loose(), x.acts, x.power, x.loose())
	}
	must := slices.Sorted(maps.Keys(x.names()))
	if !x.power {
		must = nil
	}
	w.named(must...)
	for _, name := range pool() {
		b, err := w.Read(name)
		i, ok := x.names()[name]
		switch {
		case !x.power:
			w.faults(err, "read", name, api.ErrDown)
		case !legal(name):
			w.faults(err, "read", name, api.ErrName)
		case !ok:
			w.faults(err, "read", name, api.ErrMissing)
		default:
			w.fine(err)
			if string(b) != x.files[i].bytes {
				w.Fatalf("%q holds %q, not %q", name, b, x.files[i].bytes)
			}
			continue
		}
		if b != nil {
			w.Fatalf("a refused Read tells %q", b)
		}
	}
}

func (d dice) name() string {
	if d.IntN(12) == 0 {
		return pick(d, pool()[5:]...)
	}
	return pick(d, pool()[:5]...)
}

func (d dice) act() act {
	a := act{call: pick(d, "create", "create", "append", "append", "append", "sync", "rename", "remove", "syncnames")}
	if a.call != "syncnames" {
		a.name = d.name()
	}
	if a.call == "rename" {
		a.to = d.name()
	}
	if a.call == "append" {
		a.p = fmt.Sprintf("%d.", d.Uint64())[:d.IntN(8)]
	}
	return a
}

// number is any, mostly small.
func (d dice) number(most int) int {
	return pick(d, 0, d.IntN(most), d.IntN(most), d.IntN(most), -1, math.MaxInt, math.MinInt)
}

func (d dice) cut(files int) (c api.Cut) {
	c.Names = d.number(8)
	for range d.IntN(files + 2) {
		c.Bytes = append(c.Bytes, d.number(6))
	}
	return c
}

func (d dice) faults(acts int) (all []api.Fault) {
	for range d.IntN(5) {
		all = append(all, api.Fault{Step: acts + d.IntN(12), Kind: d.IntN(9), Part: d.number(6)})
	}
	return all
}

// P18.2 to P18.8: over long rows of calls a disk tells what the chapter's words do.
func TestAsThePlainDisk(t *testing.T) {
	for seed := range uint64(300) {
		d := diceOf(seed)
		space := pick(d, 0, 5, 20, 40, 1000)
		w, x := disk(t, space), &plainDisk{space: space, power: true, past: []map[string]int{{}}}
		for range 250 {
			switch d.IntN(25) {
			case 0:
				c := d.cut(len(x.files))
				w.Restart(c)
				x.restart(c)
			case 1, 2:
				plan := d.faults(x.acts)
				w.Plan(plan...)
				x.plan = plan
			default:
				a := d.act()
				err, e := w.does(a), x.do(a)
				if e == api.OK {
					w.fine(err)
				} else {
					w.faults(err, a.call, a.name, e)
				}
				if !x.power && d.IntN(3) == 0 {
					c := d.cut(len(x.files))
					w.Restart(c)
					x.restart(c)
				}
			}
			w.like(x)
		}
	}
}

// R4: two disks know nothing of each other, and answer the same calls alike.
func TestTwoDisks(t *testing.T) {
	d := diceOf(77)
	v, w := disk(t, 50), disk(t, 50)
	for range 500 {
		a := d.act()
		if d.IntN(20) == 0 {
			c := d.cut(20)
			v.Restart(c)
			w.Restart(c)
		}
		first := v.does(a)
		if w.Acts() != v.Acts()-1 {
			t.Fatal("an act of one disk is another's")
		}
		second := w.does(a)
		if whyOf(t, first) != whyOf(t, second) || !slices.Equal(v.Names(), w.Names()) || v.Loose() != w.Loose() {
			t.Fatalf("%v: %v and %v", a, first, second)
		}
	}
}
