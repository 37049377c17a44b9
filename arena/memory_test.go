package arena_test

import (
	"bytes"
	"runtime"
	"testing"

	"granary/api"
	"granary/arena"
)

// scribble writes over a list, its spare room too.
func scribble(p []byte) {
	p = p[:cap(p)]
	for i := range p {
		p[i] ^= 0xff
	}
}

// R2: what is answered shares nothing with the arena or with another answer.
func TestAnswersAreNew(t *testing.T) {
	a := marked(t, size, pages)
	must := whole(t, a)
	for _, n := range []int{0, 1, 3, 100, size} {
		one, _ := a.Read(size, n)
		two, _ := a.Read(size, n)
		scribble(one)
		if !bytes.Equal(two, must[size:size+n]) {
			t.Errorf("two Reads of %d bytes share memory", n)
		}
		scribble(two)
	}
	one, _ := a.Page(1)
	two, _ := a.Page(1)
	scribble(one)
	if !bytes.Equal(two, must[size:2*size]) {
		t.Error("two Pages share memory")
	}
	scribble(two)
	if !bytes.Equal(whole(t, a), must) {
		t.Error("an answer shares memory with the arena")
	}
}

// R2: what an answer tells stays, whatever is laid later.
func TestAnswersStay(t *testing.T) {
	a := marked(t, size, pages)
	must := whole(t, a)
	p, _ := a.Read(8, 100)
	page, _ := a.Page(0)
	a.Fill(0, size, 0)
	if !bytes.Equal(p, must[8:108]) || !bytes.Equal(page, must[:size]) {
		t.Error("a later Fill has changed an answer")
	}
}

// R2: what is handed in is neither changed, nor kept, nor is its spare room.
func TestArgumentsAreLeft(t *testing.T) {
	a := made(t, size, pages)
	room := []byte("abcdefgh")
	p := room[:3]
	a.Write(0, p)
	a.Same(0, p)
	a.Write(size-1, p)
	a.Same(size-1, p)
	if string(room) != "abcdefgh" {
		t.Errorf("an argument was changed: %q", room)
	}
	scribble(p)
	if !a.Same(0, []byte("abc\x00")) {
		t.Error("an argument was kept, or its spare room was laid")
	}
	a.Fill(0, 3, 'z')
	scribble(p)
	if string(room) != "abcdefgh" {
		t.Errorf("an argument was kept: %q", room)
	}
}

// madeRoom is the bytes that a function asks of the memory, in many turns.
func madeRoom(turns int, f func()) int {
	var before, after runtime.MemStats
	runtime.ReadMemStats(&before)
	for range turns {
		f()
	}
	runtime.ReadMemStats(&after)
	return int(after.TotalAlloc - before.TotalAlloc)
}

type call struct {
	name string
	do   func()
}

// callsOf are all calls of one arena, those that are refused too.
func callsOf(a *arena.Arena) []call {
	last, word := a.Len()-a.PageSize(), []byte("granary")
	return []call{
		{"the sizes", func() { a.PageSize(); a.Pages(); a.Len() }},
		{"Get", func() { arena.Get[uint64](a, last); arena.Get[uint8](a, a.Len()) }},
		{"Put", func() { arena.Put(a, last, uint64(1)); arena.Put(a, a.Len(), uint8(1)) }},
		{"Read", func() { a.Read(last, 7); a.Read(last, a.Len()+1) }},
		{"Write", func() { a.Write(last, word); a.Write(a.Len(), word) }},
		{"Fill", func() { a.Fill(last, 1024, 7); a.Fill(last, a.Len()+1, 7) }},
		{"Move", func() { a.Move(0, last, 1024); a.Move(0, a.Len(), 1) }},
		{"Same", func() { a.Same(last, word); a.Same(a.Len(), word) }},
		{"Page", func() { a.Page(a.Pages() - 1); a.Page(a.Pages()) }},
	}
}

// P1.7: the room that a call makes is the same in a small arena and in a great one.
func TestRoomOfCalls(t *testing.T) {
	const turns = 256
	small, great := callsOf(made(t, size, 1)), callsOf(made(t, size, 1024))
	for i, c := range small {
		few, many := madeRoom(turns, c.do), madeRoom(turns, great[i].do)
		if many-few > turns*64 {
			t.Errorf("%s makes %d bytes of room in a small arena, %d in a great one", c.name, few, many)
		}
	}
}

// P1.7: an arena of 2^30 bytes can be made, and used to its last byte.
func TestGreatestArena(t *testing.T) {
	const page, count = 1 << 20, 1024
	const end = page * count
	a := made(t, page, count)
	sizesAre(t, a, page, count)
	if e := arena.Put(a, end-8, uint64(0x0102030405060708)); e != api.OK {
		t.Error("Put at the end:", e)
	}
	if e := a.Write(end-page, []byte("granary")); e != api.OK {
		t.Error("Write into the last page:", e)
	}
	if e := a.Move(0, end-8, 8); e != api.OK || !a.Same(0, []byte{1, 2, 3, 4, 5, 6, 7, 8}) {
		t.Error("Move from the end to the beginning:", e)
	}
	p, e := a.Page(count - 1)
	if e != api.OK || len(p) != page || !bytes.HasPrefix(p, []byte("granary\x00")) || !bytes.HasSuffix(p, []byte{0, 1, 2, 3, 4, 5, 6, 7, 8}) {
		t.Error("the last page holds something else than was laid:", len(p), e)
	}
	if n, e := arena.Get[uint16](a, end-1); n != 0 || e != api.ErrHandle {
		t.Error("Get beyond the end:", n, e)
	}
	for _, c := range callsOf(a) {
		if room := madeRoom(1, c.do); room > 2*page {
			t.Errorf("%s makes %d bytes of room", c.name, room)
		}
	}
}
