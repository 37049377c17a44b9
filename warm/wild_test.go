package warm_test

import (
	"math"
	"reflect"
	"testing"

	"granary/api"
	"granary/store"
	"granary/warm"
)

// bytes are any.
func (d dice) bytes(n int) []byte {
	b := make([]byte, n)
	for i := range b {
		b[i] = byte(pick(d, 0, 0, 1, 255, d.IntN(256)))
	}
	return b
}

// spoil changes a few bytes.
func (d dice) spoil(b []byte) []byte {
	for range d.IntN(4) {
		if len(b) > 0 {
			b[d.IntN(len(b))] = byte(pick(d, 0, 1, 2, 3, 4, 255, d.IntN(256)))
		}
	}
	switch d.IntN(9) {
	case 0:
		b = b[:d.IntN(len(b)+1)]
	case 1:
		b = append(b, d.bytes(d.IntN(50))...)
	}
	return b
}

// oddPicture is a picture that is spoilt in any way, mostly with its sums right.
func (d dice) oddPicture(t *testing.T) (meta, data []byte) {
	s := opened(t, small())
	d.work(s, d.IntN(60))
	meta, data = warm.Picture(s, d.number(100))
	if d.IntN(3) > 0 {
		data = d.spoil(data)
	}
	m := says(t, meta)
	if d.IntN(8) > 0 {
		m.Length, m.Sum = uint64(len(data)), sumOf(data)
	}
	if d.IntN(4) == 0 {
		m.Items = pick(d, m.Items+1, m.Items-1, d.Uint32())
	}
	if d.IntN(4) == 0 {
		m.Now, m.Pending = int64(d.number(30)), int64(d.number(30))
		m.Issued, m.Cut = m.Issued+uint64(d.number(30)), pick(d, m.Cut, d.Uint64()>>d.IntN(64))
	}
	meta = m.bytes()
	if d.IntN(6) == 0 {
		meta = d.spoil(meta)
		if len(meta) >= 83 && d.IntN(3) > 0 {
			meta = sealed(meta)
		}
	}
	return meta, data
}

// judged is what a start at that tick tells of a picture, said anew.
func judged(meta, data []byte, now int) api.Start {
	if len(meta) != 91 || !reflect.DeepEqual(sealed(meta), meta) || meta[8] > 1 {
		return cold(api.ErrCorrupt)
	}
	m := decoded(meta)
	c := api.Config{PageSize: int(m.PageSize), Pages: int(m.Pages), Factor: int(m.Factor), MinChunk: int(m.MinChunk), ItemLimit: int(m.Limit), Hot: int(m.Hot), Warm: int(m.Warm)}
	switch {
	case c != small():
		return cold(api.ErrArg)
	case m.Length != uint64(len(data)) || m.Sum != sumOf(data):
		return cold(api.ErrCorrupt)
	case m.Issued > math.MaxUint64-2*leap:
		return cold(api.ErrTokens)
	}
	rows, ok := undone(data)
	if !ok || len(rows) != int(m.Items) {
		return cold(api.ErrForm)
	}
	st := api.State{Now: int(m.Now), Issued: m.Issued, Cut: m.Cut, Pending: int(m.Pending)}
	if _, e := store.Restore(c, pace(), st, rows); e != api.OK {
		return cold(api.ErrForm)
	}
	cut := m.Cut
	if now > st.Now && st.Pending != 0 && st.Pending <= now {
		cut = max(cut, m.Issued)
	}
	items := 0
	for _, r := range rows {
		if r.Entry.Token > cut && (r.Entry.Expiry == 0 || r.Entry.Expiry > max(now, st.Now)) {
			items++
		}
	}
	return taken(items, len(rows)-items, int(m.Number))
}

// P18.14, P18.16 and P18.20: whatever a picture holds, no call panics, what is told is what the chapter says, and what a Load gives is a store.
func TestOddPictures(t *testing.T) {
	count := map[api.Start]int{}
	for seed := range uint64(6000) {
		d := diceOf(seed)
		meta, data := d.oddPicture(t)
		must := judged(meta, data, 1)
		if got := warm.Check(meta, data, small()); got != must {
			t.Fatalf("Check: %+v, not %+v", got, must)
		}
		count[cold(must.Why)]++
		w := disk(t, plenty)
		w.picture(meta, data)
		now := pick(d, 1, 1, 1+d.IntN(40), 1<<40)
		s := w.loads(now, judged(meta, data, now))
		d.work(s, 40)
		w.is(warm.Save(w.Disk, s), map[bool]api.Errno{true: api.ErrTokens}[s.Issued() > math.MaxUint64-2*leap || must.Why == api.ErrTokens || tokens(meta) > math.MaxUint64-3*leap])
	}
	for _, why := range []api.Errno{api.OK, api.ErrCorrupt, api.ErrArg, api.ErrTokens, api.ErrForm} {
		if count[cold(why)] < 5 {
			t.Errorf("%v came %d times", why, count[cold(why)])
		}
	}
}

// P18.20: files of any bytes.
func TestOddFiles(t *testing.T) {
	for seed := range uint64(2000) {
		d := diceOf(seed)
		meta := d.bytes(pick(d, 0, 1, 82, 83, 90, 91, 91, 92, 500))
		data := d.bytes(pick(d, 0, 1, 35, 36, 37, 300))
		if len(meta) == 91 && d.IntN(4) > 0 {
			meta[8] &= 1
			meta = sealed(meta)
		}
		if got, must := warm.Check(meta, data, small()), judged(meta, data, 1); got != must {
			t.Fatalf("Check: %+v, not %+v", got, must)
		}
		w := disk(t, plenty)
		for _, name := range []string{dataA, dataB, theMeta, newMeta} {
			if d.IntN(3) > 0 {
				w.file(name, string(pick(d, meta, data)))
			}
		}
		s, start, err := warm.Load(w.Disk, small(), 1)
		w.fine(err)
		if start.Warm || s == nil || s.Len() != 0 {
			t.Fatalf("Load: %+v", start)
		}
		whyOf(t, warm.Save(w.Disk, s))
	}
}

// R1: calls with any arguments end, and none panics.
func TestWild(t *testing.T) {
	for seed := range uint64(200) {
		d := diceOf(seed)
		wild := func() int { return pick(d, 0, 1, -1, d.IntN(99), d.Int(), -d.Int(), math.MaxInt, math.MinInt) }
		text := func() string { return string(d.bytes(pick(d, 0, 1, 2, 32, 33, 1000))) }
		made, _ := warm.NewDisk(wild())
		if made == nil {
			made = disk(t, 1000).Disk
		}
		s := opened(t, small())
		for range 60 {
			a, b := text(), text()
			made.Create(a)
			made.Append(pick(d, a, b), d.bytes(d.IntN(300)))
			made.Rename(a, pick(d, a, b))
			made.Plan(api.Fault{Step: made.Acts() + d.IntN(9), Kind: wild(), Part: wild()}, api.Fault{Step: wild(), Kind: wild(), Part: wild()})
			made.Sync(b)
			made.Remove(pick(d, a, b))
			made.SyncNames()
			made.Read(a)
			made.Names()
			d.work(s, 3)
			whyOf(t, warm.Save(made, s))
			c := pick(d, small(), small(), api.Config{PageSize: wild() % 5000, Pages: wild() % 9, Factor: wild() % 500, MinChunk: wild(), ItemLimit: wild(), Hot: wild(), Warm: wild()})
			got, start, err := warm.Load(made, c, wild())
			if whyOf(t, err) != api.OK && (got != nil || start != (api.Start{})) || err == nil && got == nil {
				t.Fatalf("Load: %v %+v %v", got, start, err)
			}
			warm.Check(d.bytes(d.IntN(99)), d.bytes(d.IntN(99)), c)
			made.Restart(api.Cut{Names: wild(), Bytes: []int{wild(), wild(), wild()}})
		}
	}
}
