package route_test

import (
	"bytes"
	"testing"

	"granary/api"
)

const filler = "!!!!!!!!!!!!!!!!"

// spare is a row of bytes with room behind it, which is filled.
func spare(text string) []byte { return append([]byte(lines(text)), filler...)[:len(lines(text))] }

// isSpare: is it as it was, the room behind it too?
func isSpare(p []byte, text string) bool {
	return bytes.Equal(p[:len(lines(text))+len(filler)], []byte(lines(text)+filler))
}

// wipe changes all bytes that can be reached, the spare room too.
func wipe(p []byte) {
	for i := range p[:cap(p)] {
		p[:cap(p)][i] = '#'
	}
}

// wipeOuts changes all that can be reached of a list.
func wipeOuts(l []api.Out) {
	for _, o := range l {
		wipe(o.Bytes)
	}
	for i := range l[:cap(l)] {
		l[:cap(l)][i] = api.Out{To: 99}
	}
}

// R2: a chunk that is handed in is not changed and not kept, wherever it is cut.
func TestChunksAreNotKept(t *testing.T) {
	const sent, answer = "set a 5 0 3|xyz|get a c|bogus|", "STORED|VALUE a 5 3|xyz|VALUE c 0 0||END|"
	for at := range len(sent) {
		w := two(t, 8, 0)
		for _, text := range []string{sent[:at], sent[at:]} {
			chunk := spare(text)
			w.is("Feed", w.r.Feed(1, chunk), api.OK)
			if !isSpare(chunk, text) {
				t.Fatalf("%q was changed", text)
			}
			wipe(chunk)
		}
		w.sends(0, "set a 5 0 3|xyz|get a c|")
		for _, text := range []string{answer[:at], answer[at:]} {
			chunk := spare(text)
			w.is("Got", w.r.Got(0, chunk), api.OK)
			if !isSpare(chunk, text) {
				t.Fatalf("%q was changed", text)
			}
			wipe(chunk)
		}
		w.tells(1, answer+"ERROR|")
	}
}

// R2: what is told is the caller's: whatever becomes of it, nothing else changes.
func TestOutsAreTheCallers(t *testing.T) {
	w := two(t, 8, 0)
	w.open(2)
	for range 3 {
		w.feed(1, "get a b|mn|bogus|")
		w.feed(2, "get b|mn|bogus|delete a|")
		l := w.r.Sends()
		if !same(l, outs([]any{0, "get a|delete a|", 1, "get b|get b|"})) {
			t.Fatalf("Sends tells %s", brief(l))
		}
		wipe(l[0].Bytes)
		if string(l[1].Bytes) != lines("get b|get b|") {
			t.Fatalf("two of one list share memory: %s", brief(l))
		}
		wipeOuts(l)
		w.feed(1, "get a|")
		w.sends(0, "get a|")
		w.got(0, "VALUE a 0 1|x|END|NOT_FOUND|")
		w.got(1, "END|END|")
		told := w.r.Tells()
		if !same(told, outs([]any{1, "VALUE a 0 1|x|END|MN|ERROR|", 2, "END|MN|ERROR|NOT_FOUND|"})) {
			t.Fatalf("Tells tells %s", brief(told))
		}
		wipe(told[0].Bytes)
		if string(told[1].Bytes) != lines("END|MN|ERROR|NOT_FOUND|") {
			t.Fatalf("two of one list share memory: %s", brief(told))
		}
		wipeOuts(told)
		w.got(0, "VALUE a 0 1|y|END|")
		w.tells(1, "VALUE a 0 1|y|END|")
	}
}

// R2: what was told stays as it is, whatever comes behind it.
func TestOutsStay(t *testing.T) {
	w := two(t, 8, 0)
	w.feed(1, "get a|mn|get a|")
	sent := w.r.Sends()
	w.got(0, "VALUE a 0 1|x|END|")
	told := w.r.Tells()
	w.feed(1, "get c|bogus|delete a|")
	w.sends(0, "get c|delete a|")
	w.got(0, "VALUE a 0 1|y|END|END|DELETED|")
	w.tells(1, "VALUE a 0 1|y|END|END|ERROR|DELETED|")
	w.down(0)
	if !same(sent, outs([]any{0, "get a|get a|"})) || !same(told, outs([]any{1, "VALUE a 0 1|x|END|MN|"})) {
		t.Errorf("what was told became %s, %s", brief(sent), brief(told))
	}
}

// R3: a refusal changes nothing.
func TestRefusalsChangeNothing(t *testing.T) {
	w := two(t, 8, 5)
	refused := func() {
		w.is("Close", w.r.Close(2), api.ErrConn)
		w.is("Feed", w.r.Feed(2, []byte("get a\r\n")), api.ErrConn)
		w.is("Got", w.r.Got(2, []byte("bogus")), api.ErrServer)
		w.is("Down", w.r.Down(-1), api.ErrServer)
		w.is("Up", w.r.Up(2), api.ErrServer)
		w.is("Tick", w.r.Tick(-7), api.ErrArg)
	}
	refused()
	w.feed(1, "get a|ge")
	refused()
	w.feed(1, "t b|")
	w.got(0, "EN")
	refused()
	w.sends(0, "get a|", 1, "get b|")
	w.tick(4)
	refused()
	w.got(0, "D|")
	refused()
	w.tells(1, "END|")
	w.down(1)
	refused()
	w.tells(1, "END|")
	w.feed(1, "delete b|")
	w.tells(1, isDown)
	w.open(2)
}

// R4, P21.14: two routers over one ring have nothing in common.
func TestApart(t *testing.T) {
	r := pair(t)
	x, y := newWorld(t, r, 8, 5), newWorld(t, r, 8, 5)
	x.open(1)
	x.feed(1, "get a|ge")
	y.sends()
	y.is("Feed", y.r.Feed(1, nil), api.ErrConn)
	y.open(1)
	y.feed(1, "delete a|")
	y.sends(0, "delete a|")
	y.got(0, "DELETED|")
	x.tells()
	y.tells(1, "DELETED|")
	y.down(0)
	y.tick(5)
	x.feed(1, "t b|")
	x.sends(0, "get a|", 1, "get b|")
	x.got(0, "END|")
	x.got(1, "END|")
	x.tells(1, "END|END|")
	y.feed(1, "delete a|")
	y.tells(1, isDown)
}

// R2: a ring is a value: what is made of it later is none of the router's business.
func TestRingIsAValue(t *testing.T) {
	r := pair(t)
	w := newWorld(t, r, 8, 0)
	w.open(1)
	if _, e := r.Drop("larch"); e != api.OK {
		t.Fatal(e)
	}
	r, _ = r.Add(api.Server{Name: "aspen", Weight: 8})
	w.feed(1, "get a b|")
	w.sends(0, "get a|", 1, "get b|")
	w.is("Up", w.r.Up(2), api.ErrServer)
}
