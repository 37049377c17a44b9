package warm

import (
	"granary/api"
	"granary/hash"
	"granary/store"
)

// The files of a picture.
const (
	metaFile = "warm.meta"
	newFile  = "warm.meta.new"
)

// Bytes of a meta without its own sum, and with it; and those of an item ahead of its key.
const (
	summed   = 83
	metaSize = 91
	itemHead = 36
)

// dataFile is the name of the data file that a meta names.
func dataFile(which int) string {
	if which == 0 {
		return "warm.a"
	}
	return "warm.b"
}

// head is what a meta says.
type head struct {
	number      uint64
	which       int // the data file
	config      api.Config
	state       api.State
	items       int
	length, sum uint64 // of the data
}

// metaWidths are the bytes of each number of a meta, in their order.
func metaWidths() []int { return []int{8, 1, 4, 4, 4, 4, 4, 1, 1, 8, 8, 8, 8, 4, 8, 8} }

// itemWidths are those of an item.
func itemWidths() []int { return []int{1, 4, 4, 8, 8, 8, 1, 1, 1} }

// laid puts numbers behind a row of bytes, the highest byte of each first.
func laid(to []byte, widths []int, numbers ...uint64) []byte {
	for i, width := range widths {
		for k := width - 1; k >= 0; k-- {
			to = append(to, byte(numbers[i]>>(8*k)))
		}
	}
	return to
}

// numbersOf are the numbers that a row of bytes begins with. It must have as many bytes as they are wide.
func numbersOf(from []byte, widths []int) []uint64 {
	all := make([]uint64, len(widths))
	at := 0
	for i, width := range widths {
		for _, b := range from[at : at+width] {
			all[i] = all[i]<<8 | uint64(b)
		}
		at += width
	}
	return all
}

// bytes are the meta.
func (h head) bytes() []byte {
	c, st := h.config, h.state
	b := laid(nil, metaWidths(), h.number, uint64(h.which),
		uint64(c.PageSize), uint64(c.Pages), uint64(c.Factor), uint64(c.MinChunk), uint64(c.ItemLimit), uint64(c.Hot), uint64(c.Warm),
		uint64(st.Now), st.Issued, st.Cut, uint64(st.Pending),
		uint64(h.items), h.length, h.sum)
	return laid(b, []int{8}, hash.Sum(b))
}

// headOf is what a meta says; api.ErrCorrupt, if it does not stand.
func headOf(b []byte) (head, api.Errno) {
	if len(b) != metaSize || numbersOf(b[summed:], []int{8})[0] != hash.Sum(b[:summed]) {
		return head{}, api.ErrCorrupt
	}
	n := numbersOf(b, metaWidths())
	if n[1] > 1 {
		return head{}, api.ErrCorrupt
	}
	return head{
		number: n[0],
		which:  int(n[1]),
		config: api.Config{
			PageSize: int(n[2]), Pages: int(n[3]), Factor: int(n[4]), MinChunk: int(n[5]), ItemLimit: int(n[6]),
			Hot: int(n[7]), Warm: int(n[8]),
		},
		state:  api.State{Now: int(n[9]), Issued: n[10], Cut: n[11], Pending: int(n[12])},
		items:  int(n[13]),
		length: n[14],
		sum:    n[15],
	}, api.OK
}

// portrait is a store's picture, without a number and without a data file.
func portrait(s *store.Store) (head, []byte) {
	var data []byte
	rows := s.Rows()
	for _, r := range rows {
		data = laidRow(data, r)
	}
	return head{config: s.Config(), state: s.State(), items: len(rows), length: uint64(len(data)), sum: hash.Sum(data)}, data
}

// Picture is a store's picture, under a number.
func Picture(s *store.Store, number int) (meta, data []byte) {
	if s == nil {
		return nil, nil
	}
	h, data := portrait(s)
	h.number, h.which = uint64(number), 1
	if number%2 != 0 {
		h.which = 0
	}
	return h.bytes(), data
}
