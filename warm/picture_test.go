package warm_test

import (
	"bytes"
	"math"
	"testing"

	"granary/api"
	"granary/store"
	"granary/warm"
)

// P18.9: the bytes of one item and of its meta, one by one.
func TestLayout(t *testing.T) {
	c := api.Config{PageSize: 8192, Pages: 5, Factor: 200, MinChunk: 64, ItemLimit: 1024, Hot: 20, Warm: 31}
	st := api.State{Now: 0x0102030405, Issued: 0x1122334455667788, Cut: 0x0908070605040302, Pending: 0x0102030406}
	r := api.Row{
		Entry: api.Entry{Key: "key", Value: []byte("\x00\r\nv"), Flags: 0xfedcba98, Expiry: 0x7162534435261708, Touched: 0x0a0b0c0d0e0f, Token: 0x1122334455667700, Stale: true, Hit: true},
		Queue: api.Cold, Class: 2,
	}
	s := restored(t, c, st, []api.Row{r})
	meta, data := warm.Picture(s, 0x0123456789abcdef)
	must := "\x03" + "\x00\x00\x00\x04" + "\xfe\xdc\xba\x98" + "\x71\x62\x53\x44\x35\x26\x17\x08" + "\x00\x00\x0a\x0b\x0c\x0d\x0e\x0f" + "\x11\x22\x33\x44\x55\x66\x77\x00" + "\x0a" + "\x03" + "\x02" + "key" + "\x00\r\nv"
	if string(data) != must {
		t.Errorf("data: %q, not %q", data, must)
	}
	ahead := "\x01\x23\x45\x67\x89\xab\xcd\xef" + "\x00" +
		"\x00\x00\x20\x00" + "\x00\x00\x00\x05" + "\x00\x00\x00\xc8" + "\x00\x00\x00\x40" + "\x00\x00\x04\x00" + "\x14" + "\x1f" +
		"\x00\x00\x00\x01\x02\x03\x04\x05" + "\x11\x22\x33\x44\x55\x66\x77\x88" + "\x09\x08\x07\x06\x05\x04\x03\x02" + "\x00\x00\x00\x01\x02\x03\x04\x06" +
		"\x00\x00\x00\x01" + "\x00\x00\x00\x00\x00\x00\x00\x2b"
	if string(meta[:75]) != ahead {
		t.Errorf("meta: %q, not %q", meta[:75], ahead)
	}
	if m := says(t, meta); m.Sum != sumOf(data) {
		t.Errorf("the data's sum: %x", m.Sum)
	}
}

// P18.9: each mark alone, and all of them.
func TestMarks(t *testing.T) {
	for marks := range 16 {
		r := row("a", 1, "x", 0)
		r.Active, r.Entry.Stale, r.Entry.Won, r.Entry.Hit = marks&1 != 0, marks&2 != 0, marks&4 != 0, marks&8 != 0
		_, data := warm.Picture(restored(t, small(), api.State{Now: 1, Issued: 1}, []api.Row{r}), 1)
		if int(data[33]) != marks {
			t.Errorf("marks %d: %d", marks, data[33])
		}
	}
}

// P18.9 and P18.10: over stores of many items, their order, and all that is said of them.
func TestPictures(t *testing.T) {
	for seed := range uint64(60) {
		d := diceOf(seed)
		s := opened(t, pick(d, small(), wide()))
		for range 4 {
			d.work(s, d.IntN(120))
			number := d.number(1 << 20)
			meta, data := warm.Picture(s, number)
			rows := s.Rows()
			if must := dataOf(rows); !bytes.Equal(data, must) {
				t.Fatalf("data: %q, not %q", data, must)
			}
			must := of(s.Config(), s.State(), len(rows), data)
			must.Number, must.Which = uint64(number), 1
			if number%2 != 0 {
				must.Which = 0
			}
			if !bytes.Equal(meta, must.bytes()) {
				t.Fatalf("meta: %+v, not %+v", says(t, meta), must)
			}
		}
	}
}

// P18.10: the number as it is, and which data file goes by its being odd.
func TestPictureNumbers(t *testing.T) {
	s := filled(t, "a")
	for number, which := range map[int]uint8{0: 1, 1: 0, 2: 1, 7: 0, -1: 0, -2: 1, -3: 0, math.MaxInt: 0, math.MinInt: 1, math.MinInt + 1: 0} {
		meta, _ := warm.Picture(s, number)
		if m := says(t, meta); m.Number != uint64(number) || m.Which != which {
			t.Errorf("%d: number %d, which %d", number, m.Number, m.Which)
		}
	}
}

// P18.10: of no store there are two empty rows; of an empty one there are no data.
func TestEmptyPictures(t *testing.T) {
	if meta, data := warm.Picture(nil, 5); len(meta) != 0 || len(data) != 0 {
		t.Errorf("nil: %v %v", meta, data)
	}
	meta, data := warm.Picture(opened(t, small()), 5)
	if len(meta) != 91 || len(data) != 0 {
		t.Errorf("an empty store: %d and %d bytes", len(meta), len(data))
	}
	must := of(small(), api.State{Now: 1}, 0, nil)
	must.Number = 5
	if says(t, meta) != must {
		t.Errorf("%+v, not %+v", says(t, meta), must)
	}
}

// P18.9: only live items; P18.12: a picture changes nothing of a store.
func TestPictureOfTheDead(t *testing.T) {
	s, e := store.Paced(small(), api.Pace{Buckets: 8, Links: 3})
	if e != api.OK {
		t.Fatal(e)
	}
	sets(s, "x", "a")
	setTill(s, "x", -1, "b")
	setTill(s, "x", 5, "c")
	if s.Len() != 3 {
		t.Fatalf("Len %d", s.Len())
	}
	meter, why := s.Meter(), s.Why()
	meta, data := warm.Picture(s, 1)
	if m := says(t, meta); m.Items != 2 || len(data) != 76 || !bytes.Equal(data, dataOf(s.Rows())) {
		t.Errorf("%d items, %q", m.Items, data)
	}
	if s.Len() != 3 || s.Meter() != meter || len(s.Why()) != len(why) || s.Issued() != 3 {
		t.Error("a picture changes a store")
	}
}

// P18.9: the longest key and a long value.
func TestLongItems(t *testing.T) {
	c := api.Config{PageSize: 1 << 20, Pages: 3, Factor: 400, MinChunk: 512, ItemLimit: 1 << 20, Hot: 30, Warm: 30}
	for c.Pages = 1; ; c.Pages++ {
		if _, e := store.New(c); e == api.OK {
			break
		}
	}
	s := opened(t, c)
	key := string(bytes.Repeat([]byte("k"), 250))
	value := string(bytes.Repeat([]byte{0xff}, 1<<20-58-250))
	sets(s, value, key)
	meta, data := warm.Picture(s, 1)
	if len(data) != 36+250+len(value) || data[0] != 250 || !bytes.Equal(data, dataOf(s.Rows())) {
		t.Errorf("%d bytes of data", len(data))
	}
	if got := warm.Check(meta, data, c); got != taken(1, 0, 1) {
		t.Errorf("Check: %+v", got)
	}
	w := disk(t, 4<<20)
	w.saves(s)
	if got := w.loadsOf(c, 1, taken(1, 0, 1)); !sameRows(got.Rows(), s.Rows()) {
		t.Error("another item is loaded")
	}
}
