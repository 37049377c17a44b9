package store_test

import (
	"cmp"
	"slices"
	"strconv"

	"granary/api"
)

// thing is an item, said plainly.
type thing struct {
	key, value       string
	flags, token     uint64
	expiry, touched  int
	queue, class     int
	active           bool
	stale, won, hits bool
}

func (x *thing) size() int { return 58 + len(x.key) + len(x.value) }

// plain is a store said plainly, with all that is behind it: its lists are slices, its links are places in them.
type plain struct {
	config  api.Config
	pace    api.Pace
	chunks  []int // bytes of each class's chunk
	pages   []int // that each class has
	taken   []int // chunks of each class
	now     int
	cut     uint64
	pending int
	issued  uint64
	items   map[string]*thing
	queues  [][4][]*thing // by class and kind, from the head on
	wheel   []*thing      // in the order in which they were set
	buckets int
	moving  int
	lists   int // the crawler's: how many lists it has come to in this round
	next    *thing
	left    int
	meter   api.Meter
	why     []int
}

func plainOf(c api.Config, p api.Pace, chunks ...int) *plain {
	n := len(chunks)
	return &plain{config: c, pace: p, chunks: chunks, pages: make([]int, n), taken: make([]int, n), now: 1,
		items: map[string]*thing{}, queues: make([][4][]*thing, n), buckets: 16}
}

func (s *plain) dead(x *thing) bool { return s.reason(x) != api.WhyHit }

func (s *plain) reason(x *thing) int {
	switch {
	case x == nil:
		return api.WhyNone
	case x.expiry >= 1 && x.expiry <= s.now:
		return api.WhyExpired
	case x.token <= s.cut:
		return api.WhyFlushed
	}
	return api.WhyHit
}

func (s *plain) expiry(t int) int {
	switch {
	case t == 0:
		return 0
	case t < 0:
		return s.now
	case t <= 2592000:
		return s.now + t
	}
	return t
}

func (s *plain) expire(x *thing, expiry int) {
	x.expiry = expiry
	s.unwheel(x)
	if expiry > 0 {
		s.wheel = append(s.wheel, x)
	}
}

func (s *plain) unwheel(x *thing) {
	s.wheel = slices.DeleteFunc(s.wheel, func(y *thing) bool { return y == x })
}

func (s *plain) list(x *thing) *[]*thing { return &s.queues[x.class][x.queue] }

func (s *plain) unqueue(x *thing) {
	l := s.list(x)
	*l = slices.DeleteFunc(*l, func(y *thing) bool { return y == x })
}

func (s *plain) head(x *thing, kind int) {
	x.queue, x.active = kind, false
	l := s.list(x)
	*l = slices.Insert(*l, 0, x)
}

// pass is what the crawler does ahead of its next item's leaving its place.
func (s *plain) pass(x *thing) {
	if x == nil || x != s.next {
		return
	}
	l := *s.list(x)
	at := slices.Index(l, x)
	s.left--
	s.next = nil
	if at > 0 && s.left > 0 {
		s.next = l[at-1]
	}
}

func (s *plain) gone(x *thing) {
	s.pass(x)
	s.unqueue(x)
	s.unwheel(x)
	s.taken[x.class]--
}

func (s *plain) take(x *thing) {
	s.gone(x)
	delete(s.items, x.key)
	if s.moving == 0 && s.buckets > 16 && 8*len(s.items) < s.buckets {
		s.moving, s.buckets = s.buckets, s.buckets/2
	}
}

func (s *plain) most() int {
	n := 16
	for 2*n <= 1<<20 && 2*n <= 4*s.config.Pages*(s.config.PageSize/s.chunks[0]) {
		n *= 2
	}
	return n
}

func (s *plain) put(x *thing) {
	s.items[x.key] = x
	if s.moving == 0 && 2*len(s.items) > 3*s.buckets && s.buckets < s.most() {
		s.moving, s.buckets = s.buckets, 2*s.buckets
	}
}

func (s *plain) meet(key string) *thing {
	x := s.items[key]
	why := s.reason(x)
	s.why = append(s.why, why)
	if why == api.WhyExpired || why == api.WhyFlushed {
		s.take(x)
	}
	if why != api.WhyHit {
		return nil
	}
	return x
}

func (s *plain) hit(x *thing) { x.active, x.hits, x.touched = true, true, s.now }

func (s *plain) free() int {
	n := s.config.Pages
	for _, p := range s.pages {
		n -= p
	}
	return n
}

func (s *plain) each(c int) int { return s.config.PageSize / s.chunks[c] }

func (s *plain) quota(c int) int { return (s.pages[c] + s.free()) * s.each(c) }

// chunk takes a chunk, if there is one.
func (s *plain) chunk(c int) bool {
	if s.taken[c] == s.pages[c]*s.each(c) {
		if s.free() == 0 {
			return false
		}
		s.pages[c]++
	}
	s.taken[c]++
	return true
}

// row is a class's items in the order in which they are looked at.
func (s *plain) row(c int) (all []*thing) {
	for kind := api.Cold; kind >= api.Hot; kind-- {
		l := slices.Clone(s.queues[c][kind])
		slices.Reverse(l)
		all = append(all, l...)
	}
	return all
}

// pick is whom to take away.
func (s *plain) pick(c int, own *thing) *thing {
	row := slices.DeleteFunc(s.row(c), func(x *thing) bool { return x == own })
	row = row[:min(len(row), 5)]
	for i, x := range row {
		if s.dead(x) {
			s.meter.Looked, s.meter.Reclaimed = i+1, 1
			return x
		}
	}
	if len(row) == 0 {
		return nil
	}
	s.meter.Looked, s.meter.Dropped = len(row), 1
	for _, x := range row {
		if !x.active {
			return x
		}
	}
	return row[0]
}

// room takes a chunk for a thing, and makes it the thing's.
func (s *plain) room(x, own *thing) bool {
	x.class = slices.IndexFunc(s.chunks, func(n int) bool { return n >= x.size() })
	if s.chunk(x.class) {
		return true
	}
	who := s.pick(x.class, own)
	if who == nil {
		return false
	}
	s.take(who)
	return s.chunk(x.class)
}

// lay stores a thing that has its chunk.
func (s *plain) lay(x, old *thing) {
	s.issued++
	x.token, x.touched = s.issued, s.now
	s.expire(x, x.expiry)
	if old == nil {
		s.put(x)
	} else {
		s.items[x.key] = x
		s.gone(old)
	}
	s.head(x, api.Hot)
}

func refusal(text string) api.Answer { return api.Answer{Kind: api.Refused, Text: text} }

func (s *plain) entry(x *thing) api.Entry {
	return api.Entry{Key: x.key, Value: []byte(x.value), Flags: x.flags, Expiry: x.expiry, Token: x.token, Touched: x.touched, Stale: x.stale, Won: x.won, Hit: x.hits}
}

func (s *plain) read(c api.Command) api.Answer {
	a := api.Answer{Kind: api.Values}
	for _, key := range c.Keys {
		x := s.meet(key)
		if x == nil {
			continue
		}
		e := s.entry(x)
		s.hit(x)
		if c.Verb == api.Gat || c.Verb == api.Gats {
			s.expire(x, s.expiry(c.Exptime))
			e.Expiry = x.expiry
		}
		a.Entries = append(a.Entries, e)
	}
	return a
}

// store is the table of the storing verbs, row by row.
func (s *plain) store(c api.Command) api.Answer {
	old := s.meet(c.Keys[0])
	joins := c.Verb == api.Append || c.Verb == api.Prepend
	lose := func(text string) api.Answer {
		if old != nil && !joins {
			s.take(old)
		}
		return refusal(text)
	}
	x := &thing{key: c.Keys[0], value: string(c.Data), flags: c.Flags, expiry: s.expiry(c.Exptime)}
	if c.Large || x.size() > s.config.ItemLimit {
		return lose(large)
	}
	switch {
	case c.Verb == api.Add && old != nil, (c.Verb == api.Replace || joins) && old == nil:
		return api.Answer{Kind: api.NotStored}
	case c.Verb == api.Cas && old == nil:
		return api.Answer{Kind: api.NotFound}
	case c.Verb == api.Cas && old.token != c.Token:
		return api.Answer{Kind: api.Exists}
	}
	if joins {
		x.flags, x.expiry = old.flags, old.expiry
		if c.Verb == api.Append {
			x.value = old.value + x.value
		} else {
			x.value += old.value
		}
		if x.size() > s.config.ItemLimit {
			return lose(large)
		}
	}
	if !s.room(x, old) {
		return lose(noRoom)
	}
	s.lay(x, old)
	return api.Answer{Kind: api.Stored}
}

func (s *plain) count(c api.Command) api.Answer {
	x := s.meet(c.Keys[0])
	if x == nil {
		return api.Answer{Kind: api.NotFound}
	}
	n, err := strconv.ParseUint(x.value, 10, 64)
	if err != nil || len(x.value) > 20 {
		return refusal(noNumber)
	}
	switch {
	case c.Verb == api.Incr:
		n += c.Delta
	case n > c.Delta:
		n -= c.Delta
	default:
		n = 0
	}
	y := *x
	y.value, y.stale, y.won, y.hits, y.active = strconv.FormatUint(n, 10), false, false, false, false
	switch {
	case y.size() <= s.chunks[x.class]:
		s.issued++
		x.value, x.token, x.stale, x.won = y.value, s.issued, false, false
		s.hit(x)
	case y.size() > s.config.ItemLimit:
		return refusal(large)
	case !s.room(&y, x):
		return refusal(noRoom)
	default:
		s.lay(&y, x)
	}
	return api.Answer{Kind: api.Number, Number: n}
}

func (s *plain) flush(t int) {
	s.pending = 0
	switch {
	case t <= 0:
		s.cut = max(s.cut, s.issued)
	case t > 1<<40-s.now:
		s.pending = 1<<40 + 1
	default:
		s.pending = s.now + t
	}
	s.lists, s.next, s.left = 0, nil, 0
}

func (s *plain) answer(c api.Command) api.Answer {
	switch {
	case c.Verb <= api.Gats:
		return s.read(c)
	case c.Verb <= api.Cas:
		return s.store(c)
	case c.Verb == api.Incr || c.Verb == api.Decr:
		return s.count(c)
	case c.Verb == api.FlushAll:
		s.flush(c.Exptime)
		return api.Answer{Kind: api.Fine}
	case c.Verb == api.Version:
		return api.Answer{Kind: api.Told, Text: "granary 1"}
	case c.Verb == api.Verbosity:
		return api.Answer{Kind: api.Fine}
	case c.Verb == api.Quit:
		return api.Answer{Kind: api.Nothing}
	}
	x := s.meet(c.Keys[0])
	if x == nil {
		return api.Answer{Kind: api.NotFound}
	}
	if c.Verb == api.Delete {
		s.take(x)
		return api.Answer{Kind: api.Deleted}
	}
	s.expire(x, s.expiry(c.Exptime))
	s.hit(x)
	return api.Answer{Kind: api.Touched}
}

// Do does a command that is not bad.
func (s *plain) Do(c api.Command) api.Answer {
	s.meter, s.why = api.Meter{}, nil
	a := s.answer(c)
	if c.Verb >= api.FlushAll {
		s.goOn()
		return a
	}
	s.behind(c.Keys)
	return a
}

func (s *plain) behind(keys []string) {
	for _, key := range keys {
		if x := s.items[key]; x != nil {
			for n := 0; n < s.pace.Links && s.balance(x.class); n++ {
				s.meter.Links++
			}
		}
		s.goOn()
	}
}

func (s *plain) goOn() {
	n := min(s.moving, s.pace.Buckets)
	s.moving -= n
	s.meter.Buckets += n
	s.crawl(s.pace.Crawl)
}

// balance does the step that is due, if one is.
func (s *plain) balance(c int) bool {
	q := &s.queues[c]
	n := len(q[api.Hot]) + len(q[api.Warm]) + len(q[api.Cold])
	tail := func(kind int) *thing { return q[kind][len(q[kind])-1] }
	var x *thing
	switch {
	case 100*len(q[api.Hot]) > n*s.config.Hot:
		x = tail(api.Hot)
	case 100*len(q[api.Warm]) > n*s.config.Warm:
		x = tail(api.Warm)
	case len(q[api.Cold]) > 0 && tail(api.Cold).active:
		x = tail(api.Cold)
	default:
		return false
	}
	to := api.Cold
	if x.active {
		to = api.Warm
	}
	s.pass(x)
	s.unqueue(x)
	s.head(x, to)
	return true
}

// look is the crawler's look at a thing.
func (s *plain) look(x *thing) {
	s.meter.Crawled++
	if s.dead(x) {
		s.take(x)
	}
}

func (s *plain) crawl(most int) {
	if most < 1 {
		return
	}
	due := slices.DeleteFunc(slices.Clone(s.wheel), func(x *thing) bool { return x.expiry > s.now })
	slices.SortStableFunc(due, func(a, b *thing) int { return cmp.Compare(a.expiry, b.expiry) })
	due = due[:min(len(due), most)]
	for _, x := range due {
		s.look(x)
	}
	for looked := len(due); looked < most; looked++ {
		for s.next == nil {
			if s.lists == 3*len(s.queues) {
				s.lists, s.left = 0, 0
				return
			}
			l := s.queues[s.lists/3][api.Cold-s.lists%3]
			s.lists++
			s.left = len(l)
			if len(l) > 0 {
				s.next = l[len(l)-1]
			}
		}
		x := s.next
		s.pass(x)
		s.look(x)
	}
}

func (s *plain) Tick(n int) {
	s.meter, s.why = api.Meter{}, nil
	s.now += n
	if s.pending >= 1 && s.pending <= s.now {
		s.cut, s.pending = max(s.cut, s.issued), 0
	}
	s.crawl(64)
}

func (s *plain) Mark(key string, marks int) bool {
	x := s.items[key]
	if s.dead(x) || marks&^6 != 0 {
		return false
	}
	x.stale, x.won = marks&2 != 0, marks&4 != 0
	return true
}

func (s *plain) Stamp(key string, marks, exptime int, timed bool) api.Answer {
	s.meter, s.why = api.Meter{}, nil
	x := s.meet(key)
	a := api.Answer{Kind: api.NotFound}
	if x != nil {
		a.Kind = api.Stored
		s.issued++
		x.token, x.stale, x.won = s.issued, marks&2 != 0, marks&4 != 0
		if timed {
			s.expire(x, s.expiry(exptime))
		}
	}
	s.behind([]string{key})
	return a
}

// sight is what a store tells that is this one.
func (s *plain) sight() sight {
	v := sight{State: api.State{Now: s.now, Issued: s.issued, Cut: s.cut, Pending: s.pending}, Len: len(s.items)}
	for c := range s.queues {
		v.Classes = append(v.Classes, [2]int{s.taken[c], s.quota(c)})
		for kind := api.Hot; kind <= api.Cold; kind++ {
			for _, x := range s.queues[c][kind] {
				v.Bytes += x.size()
				if !s.dead(x) {
					v.Rows = append(v.Rows, api.Row{Entry: plainEntry(s.entry(x)), Queue: kind, Class: c, Active: x.active})
				}
			}
		}
	}
	return v
}

// restored is the store that Restore makes of what this one tells.
func (s *plain) restored() *plain {
	r := plainOf(s.config, s.pace, s.chunks...)
	r.now, r.cut, r.pending, r.issued = s.now, s.cut, s.pending, s.issued
	for c := range s.queues {
		for kind := api.Hot; kind <= api.Cold; kind++ {
			for _, x := range s.queues[c][kind] {
				if s.dead(x) {
					continue
				}
				y := *x
				r.chunk(c)
				r.expire(&y, y.expiry)
				r.put(&y)
				r.moving = 0
				r.queues[c][kind] = append(r.queues[c][kind], &y)
			}
		}
	}
	return r
}
