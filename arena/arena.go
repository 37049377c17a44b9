// Package arena is layer 1: it holds the bytes of all items, once and for ever, cut into pages of one size. See shared/doc/01-arena.md.
package arena

import (
	"bytes"
	"math/bits"

	"granary/api"
)

// Size is a number of 8, 16, 32 or 64 bits without a sign.
type Size interface {
	~uint8 | ~uint16 | ~uint32 | ~uint64
}

// Arena holds all bytes, cut into pages.
type Arena struct {
	pageSize, pages int
	all             []byte
}

// New makes an arena of pages of zeros.
func New(pageSize, pages int) (*Arena, api.Errno) {
	if !mayBePage(pageSize) || pages < 1 || pages > api.MaxPages {
		return nil, api.ErrArg
	}
	return &Arena{pageSize, pages, make([]byte, pageSize*pages)}, api.OK
}

// mayBePage: may a page have so many bytes?
func mayBePage(n int) bool {
	return n >= api.MinPage && n <= api.MaxPage && bits.OnesCount(uint(n)) == 1
}

// PageSize is the bytes of a page.
func (a *Arena) PageSize() int { return a.pageSize }

// Pages is the number of pages.
func (a *Arena) Pages() int { return a.pages }

// Len is the number of bytes.
func (a *Arena) Len() int { return len(a.all) }

// part is the arena's own n bytes from a place on; false, if they are not there.
func (a *Arena) part(at, n int) ([]byte, bool) {
	// at + n may wrap round; Len less what is not below 0 does not.
	if n < 0 || at < 0 || n > len(a.all)-at {
		return nil, false
	}
	// A page's size is a power of two, so this mask leaves the place within the page.
	if at&(a.pageSize-1)+n > a.pageSize {
		return nil, false
	}
	return a.all[at : at+n], true
}

// width is the bytes of a number's type.
func width[N Size]() int {
	return bits.Len64(uint64(^N(0))) / 8
}

// Get reads a number.
func Get[N Size](a *Arena, at int) (N, api.Errno) {
	if a == nil {
		return 0, api.ErrArg
	}
	p, ok := a.part(at, width[N]())
	if !ok {
		return 0, api.ErrHandle
	}
	// Gathered in 64 bits, since a number of 8 can't be shifted by a byte.
	var sum uint64
	for _, b := range p {
		sum = sum<<8 | uint64(b)
	}
	return N(sum), api.OK
}

// Put lays a number.
func Put[N Size](a *Arena, at int, n N) api.Errno {
	if a == nil {
		return api.ErrArg
	}
	p, ok := a.part(at, width[N]())
	if !ok {
		return api.ErrHandle
	}
	rest := uint64(n)
	for i := len(p) - 1; i >= 0; i-- {
		p[i] = byte(rest)
		rest >>= 8
	}
	return api.OK
}

// Read tells bytes.
func (a *Arena) Read(at, n int) ([]byte, api.Errno) {
	p, ok := a.part(at, n)
	if !ok {
		return nil, api.ErrHandle
	}
	out := make([]byte, n)
	copy(out, p)
	return out, api.OK
}

// Write lays bytes.
func (a *Arena) Write(at int, p []byte) api.Errno {
	to, ok := a.part(at, len(p))
	if !ok {
		return api.ErrHandle
	}
	copy(to, p)
	return api.OK
}

// Fill lays one byte many times.
func (a *Arena) Fill(at, n int, b byte) api.Errno {
	p, ok := a.part(at, n)
	if !ok {
		return api.ErrHandle
	}
	for i := range p {
		p[i] = b
	}
	return api.OK
}

// Move lays bytes of the arena at another place.
func (a *Arena) Move(to, from, n int) api.Errno {
	source, ok := a.part(from, n)
	if !ok {
		return api.ErrHandle
	}
	target, ok := a.part(to, n)
	if !ok {
		return api.ErrHandle
	}
	// copy minds an overlap, whichever of the two comes first.
	copy(target, source)
	return api.OK
}

// Same: do the bytes there equal these?
func (a *Arena) Same(at int, p []byte) bool {
	there, ok := a.part(at, len(p))
	return ok && bytes.Equal(there, p)
}

// Page tells a whole page.
func (a *Arena) Page(i int) ([]byte, api.Errno) {
	if i < 0 || i >= a.pages {
		return nil, api.ErrHandle
	}
	return a.Read(i*a.pageSize, a.pageSize)
}
