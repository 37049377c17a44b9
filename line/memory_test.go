package line_test

import (
	"bytes"
	"runtime"
	"slices"
	"testing"

	"granary/api"
	"granary/line"
)

const filler = "!!!!!!!!!!!!!!!!"

// spare is a row of bytes with room behind it, which is filled.
func spare(text string) []byte { return append([]byte(text), filler...)[:len(text)] }

// mixed has steps of every kind, with lists of every kind.
var mixed = lines("set a 5 0 3|abc|ms b 2 T5 k|hi|get c d|set e 0 0 3|abcd|bogus|set f 0 0 99|") + many(99) + lines("|set g x 0 2|gg|mg h k v|set a 0 0 3|xyz|gat 5 i j|")

// R2: what is handed in is not changed, its spare room included.
func TestHandedIn(t *testing.T) {
	for _, text := range append(append(short(3), long()...), mixed) {
		for _, n := range []int{1, 7, len(text) + 1} {
			f := line.New(3)
			for at := 0; at < len(text); at += n {
				piece := text[at:min(at+n, len(text))]
				chunk := spare(piece)
				f.Feed(chunk)
				if !bytes.Equal(chunk[:len(piece)+len(filler)], []byte(piece+filler)) {
					t.Fatalf("Feed has changed %.80q", piece)
				}
			}
		}
	}
}

// R2: nor is it kept: all chunks come in one and the same memory, which is wiped between.
func TestNotKept(t *testing.T) {
	for _, text := range append(append(short(3), long()...), mixed) {
		r := newRow(text, 9)
		for _, n := range []int{1, 2, 5, 11, len(text) + 1} {
			f := line.New(9)
			room := make([]byte, n)
			var got []api.Step
			for at := 0; at < len(text); at += n {
				k := copy(room, text[at:])
				got = append(got, f.Feed(room[:k])...)
				for i := range room {
					room[i] = '\n'
				}
			}
			if !sameSteps(got, r.steps) {
				t.Fatalf("%.300q in pieces of %d: %.300v, not %.300v", text, n, got, r.steps)
			}
		}
	}
}

// wipe changes all that can be reached of some steps, the room behind them too.
func wipe(steps []api.Step) {
	for _, s := range steps {
		c := s.Command
		for i := range c.Keys[:cap(c.Keys)] {
			c.Keys[:cap(c.Keys)][i] = "#"
		}
		for i := range c.Meta[:cap(c.Meta)] {
			c.Meta[:cap(c.Meta)][i] = api.Flag{Letter: '#'}
		}
		for i := range c.Data[:cap(c.Data)] {
			c.Data[:cap(c.Data)][i] = '#'
		}
	}
	for i := range steps[:cap(steps)] {
		steps[:cap(steps)][i] = api.Step{From: -1}
	}
}

// R2: what is handed out is the caller's own: neither the bytes that were fed, nor the Feeder, nor other steps hang on it.
func TestStepsAreTheCallers(t *testing.T) {
	r := newRow(mixed+mixed, 9)
	for n := 1; n <= len(mixed); n++ {
		raw := []byte(mixed + mixed)
		f := line.New(9)
		for at := 0; at < len(raw); at += n {
			to := min(at+n, len(raw))
			got := f.Feed(raw[at:to])
			if !sameSteps(got, r.steps[r.seen[at].steps:r.seen[to].steps]) {
				t.Fatalf("pieces of %d: an answer hangs on another one", n)
			}
			for i := range got {
				wipe(got[i : i+1 : i+1])
				if !sameSteps(got[i+1:], r.steps[r.seen[at].steps+i+1:r.seen[to].steps]) {
					t.Fatalf("pieces of %d: two steps share memory", n)
				}
			}
			wipe(got)
		}
		if string(raw) != mixed+mixed {
			t.Fatalf("pieces of %d: the steps share memory with the bytes", n)
		}
	}
}

// R2: and steps that were handed out stay as they are.
func TestStepsStay(t *testing.T) {
	f := line.New(9)
	raw := []byte(mixed)
	first := f.Feed(raw)
	must := newRow(mixed, 9).steps
	clear(raw)
	for range 3 {
		f.Feed([]byte(lines("set z 0 0 9|#########|get z z z|ms z 9 k q|#########|")))
	}
	if len(first) != 10 || !sameSteps(first, must) {
		t.Errorf("what was told has changed: %v", first)
	}
}

// P12.7: what is passed over is not kept anywhere: a Feeder takes much and little memory.
func TestLittle(t *testing.T) {
	for _, begin := range []string{"x", "set a 0 0 2147483647|", "set a x 0 1000000|", "set a 0 0 3|abcd", "quit|"} {
		f := line.New(1000000)
		f.Feed([]byte(lines(begin)))
		chunk := slices.Repeat([]byte("z"), 1<<20)
		var ahead, behind runtime.MemStats
		runtime.ReadMemStats(&ahead)
		for range 64 {
			f.Feed(chunk)
		}
		runtime.ReadMemStats(&behind)
		if used := behind.TotalAlloc - ahead.TotalAlloc; used > 1<<20 || f.Held() != 0 || f.Taken() != len(lines(begin))+64<<20 {
			t.Errorf("%q and 64 MiB: %d bytes of memory, held %d, taken %d", begin, used, f.Held(), f.Taken())
		}
	}
}

// A great block comes whole, in small pieces as in one.
func TestGreatBlock(t *testing.T) {
	block := bytes.Repeat([]byte("barley\r\n"), 1<<17)
	raw := append(append([]byte("set a 0 0 1048576\r\n"), block...), "\r\nget b\r\n"...)
	for _, n := range []int{1, 1000, len(raw)} {
		f := line.New(1 << 20)
		var got []api.Step
		for at := 0; at < len(raw); at += n {
			got = append(got, f.Feed(raw[at:min(at+n, len(raw))])...)
		}
		if !sameSteps(got, []api.Step{set(string(block), 0, len(raw)-7), get("b", len(raw)-7, len(raw))}) {
			t.Errorf("in pieces of %d: %d steps", n, len(got))
		}
	}
}
