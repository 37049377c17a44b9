package store

import (
	"granary/api"
	"granary/item"
	"granary/tide"
)

// state tells the clock and the counter.
func (o *core) state() api.State {
	return api.State{Now: o.Now(), Issued: o.issued, Cut: o.Cut(), Pending: o.Pending()}
}

// rows tells the live items, class by class, queue by queue.
func (o *core) rows() []api.Row {
	var all []api.Row
	for c := range o.Classes() {
		for kind := api.Hot; kind <= api.Cold; kind++ {
			for h := range o.All(c, kind) {
				if !o.dead(h) {
					all = append(all, o.row(h, kind, c))
				}
			}
		}
	}
	return all
}

// row is an item as a picture holds it.
func (o *core) row(h api.Handle, kind, c int) api.Row {
	marks, _ := item.Marks(o.chunks, h)
	return api.Row{Entry: o.entry(h), Queue: kind, Class: c, Active: marks&api.MarkActive != 0}
}

// restore lays a state and rows into an empty store.
func (o *core) restore(st api.State, rows []api.Row) api.Errno {
	k, e := tide.New(st.Now, st.Cut, st.Pending)
	if e != api.OK || st.Issued < st.Cut || st.Issued > api.MaxNumber-api.Leap {
		return api.ErrArg
	}
	o.Clock, o.issued = k, st.Issued
	seen := map[uint64]int{} // how often each token came
	for _, r := range rows {
		seen[r.Entry.Token]++
		if !o.isRow(r) || seen[r.Entry.Token] > 1 {
			return api.ErrForm
		}
		h, e := o.chunks.Take(r.Class)
		if e != api.OK {
			return e
		}
		o.layRow(h, r)
	}
	return api.OK
}

// isRow: may this be a row behind those that are laid already?
func (o *core) isRow(r api.Row) bool {
	size, e := item.Size(len(r.Entry.Key), len(r.Entry.Value))
	_, twice := o.Find([]byte(r.Entry.Key))
	return isLegal(r.Entry.Key) && !twice &&
		r.Entry.Flags <= api.MaxFlags &&
		r.Entry.Token >= 1 && r.Entry.Token <= o.issued &&
		r.Entry.Expiry >= 0 && r.Entry.Touched >= 0 &&
		r.Queue >= api.Hot && r.Queue <= api.Cold &&
		e == api.OK && size <= o.Chunk(r.Class) // 0 of no class
}

// layRow lays a row's item into its chunk, at the tail of its queue.
func (o *core) layRow(h api.Handle, r api.Row) {
	o.fill(h, api.Item{
		Key:     []byte(r.Entry.Key),
		Value:   r.Entry.Value,
		Flags:   r.Entry.Flags,
		Expiry:  r.Entry.Expiry,
		Touched: r.Entry.Touched,
		Token:   r.Entry.Token,
		State:   api.None,
		Marks:   marksOf(r),
	})
	o.Put(h)
	o.Table.Step(o.Moving())
	o.Last(h, r.Queue)
}

// marksOf are the marks that a row tells.
func marksOf(r api.Row) int {
	all := 0
	for _, one := range [...]struct {
		is   bool
		mark int
	}{
		{r.Active, api.MarkActive},
		{r.Entry.Stale, api.MarkStale},
		{r.Entry.Won, api.MarkWon},
		{r.Entry.Hit, api.MarkHit},
	} {
		if one.is {
			all |= one.mark
		}
	}
	return all
}
