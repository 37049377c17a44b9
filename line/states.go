package line

import (
	"bytes"

	"granary/api"
	"granary/words"
)

// What ends a line and a block.
const (
	cr = 13
	lf = 10
)

// longest is how many bytes a line has at most, its end with them.
const longest = api.MaxLine + 2

const badBlock = "bad data chunk"

// The states. Each is handed the bytes that nobody has taken, one at least, and says how many of them it takes and whether the step is whole with these. One that takes none hands over to skip, which always takes some.

// line gathers a line up to its end.
func (f *Feeder) line(chunk []byte) (int, bool) {
	chunk = chunk[:min(len(chunk), longest-len(f.kept))]
	if at := bytes.IndexByte(chunk, lf); at >= 0 {
		f.keep(chunk[:at+1])
		return at + 1, f.read()
	}
	f.keep(chunk)
	if isTooLong(f.kept) {
		_, _, w := words.Line(f.kept)
		f.pass(api.Step{Wrong: w}, 0)
	}
	return len(chunk), false
}

// block gathers a block's bytes.
func (f *Feeder) block(chunk []byte) (int, bool) {
	n := min(f.left, len(chunk))
	f.keep(chunk[:n])
	f.await(f.left - n)
	return n, false
}

// behind looks at the first byte behind a block that is kept.
func (f *Feeder) behind(chunk []byte) (int, bool) {
	if chunk[0] != cr {
		f.spoil()
		return 0, false
	}
	f.keep(chunk[:1])
	f.state = f.last
	return 1, false
}

// last looks at the second one.
func (f *Feeder) last(chunk []byte) (int, bool) {
	if chunk[0] != lf {
		f.spoil()
		return 0, false
	}
	f.step.Command.Data = append([]byte(nil), f.kept[f.head:len(f.kept)-1]...)
	return 1, true
}

// skip passes over a block that nobody wants, and whatever stands behind it up to the end of a line.
func (f *Feeder) skip(chunk []byte) (int, bool) {
	if f.left > 0 {
		n := min(f.left, len(chunk))
		f.left -= n
		return n, false
	}
	at := bytes.IndexByte(chunk, lf)
	if at < 0 {
		return len(chunk), false
	}
	return at + 1, true
}

// over takes what stands behind a quit, and belongs to nobody.
func (f *Feeder) over(chunk []byte) (int, bool) { return len(chunk), false }

// read reads the line that is whole now, and says whether the step is so too.
func (f *Feeder) read() bool {
	f.head = len(f.kept)
	c, block, w := words.Line(bytes.TrimSuffix(f.kept[:f.head-1], []byte{cr}))
	f.step = api.Step{Command: c, Wrong: w}
	if w.Kind != 0 && w.Pass <= f.limit {
		block = w.Pass
	}
	switch {
	case block < 0:
		return true
	case w.Kind != 0:
		f.pass(f.step, block)
	case block > f.limit:
		f.step.Command.Large = true
		f.pass(f.step, block)
	default:
		f.await(block)
	}
	return false
}

// await waits for so many bytes of a block that is wanted.
func (f *Feeder) await(n int) {
	f.left = n
	f.state = f.block
	if n == 0 {
		f.state = f.behind
	}
}

// pass waits for the end of a block of so many bytes, of which only that end is wanted.
func (f *Feeder) pass(s api.Step, n int) {
	f.step, f.left, f.kept = s, n, nil
	f.state = f.skip
}

// spoil gives up a block that ends with other bytes than it must.
func (f *Feeder) spoil() {
	f.pass(api.Step{Wrong: api.Wrong{Kind: api.WClient, Text: badBlock, Pass: -1}}, 0)
}

func (f *Feeder) keep(p []byte) { f.kept = append(f.kept, p...) }

// isTooLong: will it be a line that is too long, whatever comes? A CR at its end may still be the end's.
func isTooLong(begun []byte) bool {
	return len(bytes.TrimSuffix(begun, []byte{cr})) > api.MaxLine
}
