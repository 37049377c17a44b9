package warm

import (
	"granary/api"
	"granary/hash"
	"granary/store"
	"granary/tide"
)

// reader tells a file's bytes.
type reader func(name string) ([]byte, error)

// picture is one that a store can be made of.
type picture struct {
	head
	rows []api.Row
}

// standing is what the meta says that stands; an error, if none does.
func standing(read reader) (head, error) {
	b, err := read(metaFile)
	if err != nil {
		return head{}, err
	}
	h, e := headOf(b)
	return h, refusal("load", metaFile, e)
}

// examine is the picture that a start with that Config takes; an error that wraps why the start is cold, if there is none.
func examine(read reader, c api.Config) (picture, error) {
	h, err := standing(read)
	if err != nil {
		return picture{}, err
	}
	if h.config != c {
		return picture{}, refusal("load", metaFile, api.ErrArg)
	}
	name := dataFile(h.which)
	data, err := read(name)
	if err != nil {
		return picture{}, err
	}
	p, e := h.open(data)
	return p, refusal("load", name, e)
}

// open takes the items out of the data, and believes none that a store does not take.
func (h head) open(data []byte) (picture, api.Errno) {
	if h.length != uint64(len(data)) || h.sum != hash.Sum(data) {
		return picture{}, api.ErrCorrupt
	}
	if h.state.Issued > maxIssued {
		return picture{}, api.ErrTokens
	}
	rows, ok := rowsOf(data, h.items)
	if !ok {
		return picture{}, api.ErrForm
	}
	if _, e := h.restore(h.state, rows); e != api.OK {
		return picture{}, api.ErrForm
	}
	return picture{h, rows}, api.OK
}

// restore makes a store of the picture's geometry.
func (h head) restore(st api.State, rows []api.Row) (*store.Store, api.Errno) {
	return store.Restore(h.config, api.Pace{Buckets: 8, Links: 3, Crawl: 4}, st, rows)
}

// wake makes the store of a start at that tick.
func (p picture) wake(now int) (*store.Store, api.Start) {
	k := p.clock(now)
	live, start := p.sift(k)
	// A store has taken all of the items at the picture's own clock: it takes some of them at a later one.
	s, _ := p.restore(api.State{Now: k.Now(), Issued: p.state.Issued + api.Leap, Cut: k.Cut(), Pending: k.Pending()}, live)
	return s, start
}

// clock is that of a start at that tick. A store has taken the picture's own, so that it is refused nothing.
func (p picture) clock(now int) *tide.Clock {
	st := p.state
	k, _ := tide.New(st.Now, st.Cut, st.Pending)
	if now > st.Now {
		k.Move(now-st.Now, st.Issued)
	}
	return k
}

// sift are the items that are not dead by a clock, and what is told of a start with them.
func (p picture) sift(k *tide.Clock) ([]api.Row, api.Start) {
	var live []api.Row
	for _, r := range p.rows {
		if !tide.Dead(r.Entry.Expiry, r.Entry.Token, k.Now(), k.Cut()) {
			live = append(live, r)
		}
	}
	return live, api.Start{Warm: true, Items: len(live), Left: len(p.rows) - len(live), Number: int(p.number)}
}
