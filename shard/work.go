package shard

import (
	"slices"
	"sync"

	"granary/api"
	"granary/item"
)

// work is a batch on its way through the shards. Of two workers none reaches what the other one writes: a row is one worker's, and so is each answer, or each entry of it.
type work struct {
	batch   []api.Command
	rows    []row
	answers []api.Answer
}

// row is what one shard does of a batch, in the batch's order.
type row struct {
	shard int
	parts []part
}

// part is a command, or what one shard does of it.
type part struct {
	at     int   // the command's place in the batch
	places []int // where those of its keys stand that are the shard's; none, if the shard does it whole
}

// spread tells which shard does what of a batch.
func (s *Store) spread(batch []api.Command) *work {
	w := &work{batch: batch, rows: make([]row, len(s.shards)), answers: make([]api.Answer, len(batch))}
	for n := range w.rows {
		w.rows[n].shard = n
	}
	for at, c := range batch {
		switch {
		case c.Verb == api.FlushAll:
			w.toAll(at)
		case isRead(c):
			s.byKeys(w, at)
		default:
			w.whole(s.home(c), at)
		}
	}
	w.rows = slices.DeleteFunc(w.rows, row.isEmpty)
	return w
}

func (r row) isEmpty() bool { return len(r.parts) == 0 }

// isRead: is this a command of many keys that is not bad?
func isRead(c api.Command) bool {
	switch c.Verb {
	case api.Get, api.Gets, api.Gat, api.Gats:
		return len(c.Keys) > 0 && !slices.ContainsFunc(c.Keys, isIllegal)
	}
	return false
}

func isIllegal(key string) bool { return !item.Legal([]byte(key)) }

// home is the shard that does a command whole. A bad one may have any: a store refuses it, and does nothing by it or behind it.
func (s *Store) home(c api.Command) int {
	switch c.Verb {
	case api.Version, api.Verbosity, api.Quit:
		return 0
	}
	if len(c.Keys) == 0 {
		return 0
	}
	return s.Shard(c.Keys[0])
}

// whole lets a shard do a command as it is.
func (w *work) whole(shard, at int) {
	w.rows[shard].parts = append(w.rows[shard].parts, part{at: at})
}

// toAll lets each shard do a command as it is. All answer alike, so that the answer is laid here, and by none of them.
func (w *work) toAll(at int) {
	w.answers[at].Kind = api.Fine
	for n := range w.rows {
		w.whole(n, at)
	}
}

// byKeys lets each shard do a command with those of its keys that are the shard's. The answer has an empty entry for each key, till the key's shard lays it.
func (s *Store) byKeys(w *work, at int) {
	keys := w.batch[at].Keys
	w.answers[at] = api.Answer{Kind: api.Values, Entries: make([]api.Entry, len(keys))}
	for place, key := range keys {
		r := &w.rows[s.Shard(key)]
		if last := len(r.parts) - 1; last < 0 || r.parts[last].at != at {
			r.parts = append(r.parts, part{at: at})
		}
		p := &r.parts[len(r.parts)-1]
		p.places = append(p.places, place)
	}
}

// run lets workers do all rows.
func (s *Store) run(w *work) {
	s.lock.Lock()
	defer s.lock.Unlock()
	rows := make(chan row)
	var all sync.WaitGroup
	for range min(s.workers, len(w.rows)) {
		all.Add(1)
		go func() {
			defer all.Done()
			for r := range rows {
				w.row(s.shards[r.shard], r.parts)
			}
		}()
	}
	for _, r := range w.rows {
		rows <- r
	}
	close(rows)
	all.Wait()
}

// row does the parts of one shard.
func (w *work) row(p piece, parts []part) {
	for _, x := range parts {
		c := w.batch[x.at]
		switch {
		case c.Verb == api.FlushAll:
			p.do(c)
		case len(x.places) > 0:
			read(p, c, x.places, w.answers[x.at].Entries)
		default:
			w.answers[x.at] = p.do(c)
		}
	}
}

// read does a command with some of its keys, and lays what hits into the places of these keys.
func read(p piece, c api.Command, places []int, entries []api.Entry) {
	some := make([]string, len(places))
	for i, place := range places {
		some[i] = c.Keys[place]
	}
	c.Keys = some
	hits := p.do(c).Entries
	for i, why := range p.store.Why() {
		if why == api.WhyHit {
			entries[places[i]], hits = hits[0], hits[1:]
		}
	}
}

// told are the answers, without the entries of keys that have missed.
func (w *work) told() []api.Answer {
	for i := range w.answers {
		w.answers[i].Entries = hitsOf(w.answers[i].Entries)
	}
	return w.answers
}

// hitsOf are the entries that were laid: those have a key, which is never empty.
func hitsOf(entries []api.Entry) []api.Entry {
	var all []api.Entry
	for _, e := range entries {
		if e.Key != "" {
			all = append(all, e)
		}
	}
	return all
}
