package meta

import (
	"slices"
	"strconv"
	"strings"

	"granary/api"
)

// flag is a flag as it is meant: behind letters of unlike kinds unlike things stand.
type flag interface{ letter() byte }

// The kinds of flags.
type (
	bare   byte   // nothing stands behind it
	opaque string // O, with a word that is told back
	mode   string // M, with its letter made great
	moment struct {
		of   byte // T or N
		time int
	}
	number struct {
		of byte // R, C, D, J or F
		n  uint64
	}
)

func (f bare) letter() byte   { return byte(f) }
func (f opaque) letter() byte { return 'O' }
func (f mode) letter() byte   { return 'M' }
func (f moment) letter() byte { return f.of }
func (f number) letter() byte { return f.of }

// meant is what a flag means that words finds right.
func meant(f api.Flag) flag {
	switch f.Letter {
	case 'O':
		return opaque(f.Arg)
	case 'M':
		return mode(strings.ToUpper(f.Arg))
	case 'T', 'N':
		t, _ := strconv.ParseInt(f.Arg, 10, 64)
		return moment{f.Letter, int(t)}
	case 'R', 'C', 'D', 'J', 'F':
		n, _ := strconv.ParseUint(f.Arg, 10, 64)
		return number{f.Letter, n}
	}
	return bare(f.Letter)
}

// wish is what the flags of a command ask for.
type wish struct {
	flags   []flag // in their order, in which they are told
	bare    []byte
	mode    mode
	times   map[byte]int
	numbers map[byte]uint64
}

// wishOf reads flags that words finds right.
func wishOf(l []api.Flag) wish {
	w := wish{times: map[byte]int{}, numbers: map[byte]uint64{}}
	for _, f := range l {
		w.flags = append(w.flags, meant(f))
	}
	for _, f := range w.flags {
		switch f := f.(type) {
		case bare:
			w.bare = append(w.bare, byte(f))
		case mode:
			w.mode = f
		case moment:
			w.times[f.of] = f.time
		case number:
			w.numbers[f.of] = f.n
		}
	}
	return w
}

// has: does a letter stand there behind which nothing does?
func (w wish) has(letter byte) bool { return slices.Contains(w.bare, letter) }
