package store

import (
	"granary/api"
	"granary/class"
	"granary/crawl"
	"granary/item"
	"granary/lru"
	"granary/queue"
	"granary/table"
	"granary/tide"
)

// Two of the parts are called Set in their packages.
type (
	chunks = class.Set
	lists  = queue.Set
)

// given are the marks that a caller may lay.
const given = api.MarkStale | api.MarkWon

// core is what is inside a Store.
type core struct {
	*chunks
	*lists
	*table.Table
	*tide.Clock
	*tide.Wheel
	*lru.Lru
	*crawl.Crawler
	pace   api.Pace
	issued uint64
	bytes  int       // the sizes of all resident items
	meter  api.Meter // of the last command or tick
	why    []int     // of the last command's keys
}

// build makes an empty one.
func build(c api.Config, p api.Pace) (*core, api.Errno) {
	s, e := class.New(c)
	if e != api.OK {
		return nil, e
	}
	// With a set that is there queues, table and crawler are refused nothing.
	q, _ := queue.New(s)
	l, e := lru.New(s, q, c.Hot, c.Warm)
	if e != api.OK {
		return nil, e
	}
	if !isPace(p) {
		return nil, api.ErrArg
	}
	t, _ := table.New(s)
	k, _ := tide.New(1, 0, 0)
	o := &core{chunks: s, lists: q, Table: t, Clock: k, Wheel: tide.NewWheel(), Lru: l, pace: p}
	o.Crawler, _ = crawl.New(q, o.Wheel, s.Classes(), o.dead, o.takeAway)
	return o, api.OK
}

// isPace: is each of its numbers within its bounds?
func isPace(p api.Pace) bool {
	for _, n := range [...]int{p.Buckets, p.Links, p.Crawl} {
		if n < 0 || n > api.MaxPace {
			return false
		}
	}
	return true
}

// isLegal: may this be a key?
func isLegal(key string) bool { return item.Legal([]byte(key)) }

// areGiven: are these marks that a caller may lay?
func areGiven(marks int) bool { return marks&^given == 0 }

// begin forgets what was told of the last command or tick.
func (o *core) begin() { o.meter, o.why = api.Meter{}, nil }

// reason is why an item is not met.
func (o *core) reason(h api.Handle) int {
	expiry, _ := item.Expiry(o.chunks, h)
	token, _ := item.Token(o.chunks, h)
	switch {
	case !tide.Dead(expiry, token, o.Now(), o.Cut()):
		return api.WhyHit
	case tide.Dead(expiry, token, o.Now(), 0): // no token is flushed by a cut of 0
		return api.WhyExpired
	}
	return api.WhyFlushed
}

// dead: is an item dead?
func (o *core) dead(h api.Handle) bool { return o.reason(h) != api.WhyHit }

// live is the live item of a key.
func (o *core) live(key string) (api.Handle, bool) {
	h, ok := o.Find([]byte(key))
	if !ok || o.dead(h) {
		return 0, false
	}
	return h, true
}

// meet meets a key: its live item; 0, if there is none.
func (o *core) meet(key string) api.Handle {
	why := api.WhyNone
	h, ok := o.Find([]byte(key))
	if ok {
		why = o.reason(h)
	}
	o.why = append(o.why, why)
	if why == api.WhyHit {
		return h
	}
	if ok {
		o.takeAway(h)
	}
	return 0
}

// need meets a key without whose item the command can't go on.
func (o *core) need(key string, or int) api.Handle {
	h := o.meet(key)
	if h == 0 {
		giveUp(or)
	}
	return h
}

// takeAway takes a resident item away.
func (o *core) takeAway(h api.Handle) {
	o.Table.Take(h)
	o.vacate(h)
}

// vacate takes an item away that is in the table no more.
func (o *core) vacate(h api.Handle) {
	o.Left(h)
	o.Leave(h)
	o.Wheel.Take(h)
	o.bytes -= o.size(h)
	o.Give(h)
}

// size is that of an item.
func (o *core) size(h api.Handle) int {
	key, value, _ := item.Lengths(o.chunks, h)
	n, _ := item.Size(key, value)
	return n
}

// fit is the size of an item of such a key and value; false, if it is above the item limit.
func (o *core) fit(key, value int) (int, bool) {
	n, e := item.Size(key, value)
	return n, e == api.OK && n <= o.Config().ItemLimit
}

// room is a chunk for an item of that size; 0, if there is none.
func (o *core) room(size int, own api.Handle) api.Handle {
	c, _ := o.For(size)
	h, e := o.chunks.Take(c)
	if e == api.OK {
		return h
	}
	who, dead, looked := o.Pick(c, own, api.Looks, o.dead)
	o.meter.Looked += looked
	if who == 0 {
		return 0
	}
	if dead {
		o.meter.Reclaimed++
	} else {
		o.meter.Dropped++
	}
	o.takeAway(who)
	h, _ = o.chunks.Take(c)
	return h
}

// issue is the next token.
func (o *core) issue() uint64 {
	o.issued++
	return o.issued
}

// lay lays a new item into a chunk, in the place of the old one, if there is one.
func (o *core) lay(h, old api.Handle, it api.Item) {
	it.Token, it.Touched, it.State, it.Marks = o.issue(), o.Now(), api.None, 0
	o.fill(h, it)
	if old == 0 {
		o.Put(h)
	} else {
		o.Swap(old, h)
		o.vacate(old)
	}
	o.Enter(h)
}

// fill lays an item into a chunk that was taken for it.
func (o *core) fill(h api.Handle, it api.Item) {
	item.Lay(o.chunks, h, it)
	o.Wheel.Set(h, it.Expiry)
	o.bytes += o.size(h)
}

// hit hits an item.
func (o *core) hit(h api.Handle) {
	o.Hit(h)
	o.mark(h, api.MarkHit, api.MarkHit)
	item.SetTouched(o.chunks, h, o.Now())
}

// mark lays some of the marks of an item, and leaves the others as they are.
func (o *core) mark(h api.Handle, some, marks int) {
	was, _ := item.Marks(o.chunks, h)
	item.SetMarks(o.chunks, h, was&^some|marks)
}

// expire gives an item the expiry that a command's time tells.
func (o *core) expire(h api.Handle, exptime int) int {
	expiry := tide.Expiry(o.Now(), exptime)
	item.SetExpiry(o.chunks, h, expiry)
	o.Wheel.Set(h, expiry)
	return expiry
}

// entry is an item as it is told.
func (o *core) entry(h api.Handle) api.Entry {
	it, _ := item.Read(o.chunks, h)
	return api.Entry{
		Key:     string(it.Key),
		Value:   it.Value,
		Flags:   it.Flags,
		Expiry:  it.Expiry,
		Token:   it.Token,
		Touched: it.Touched,
		Stale:   it.Marks&api.MarkStale != 0,
		Won:     it.Marks&api.MarkWon != 0,
		Hit:     it.Marks&api.MarkHit != 0,
	}
}

// behind does the work behind a command that uses these keys.
func (o *core) behind(keys []string) {
	for _, key := range keys {
		o.balance(key)
		o.goOn()
	}
	if len(keys) == 0 {
		o.goOn()
	}
}

// balance moves items of the class of a key's item, if it has one.
func (o *core) balance(key string) {
	h, ok := o.Find([]byte(key))
	if !ok {
		return
	}
	_, c, _ := o.At(h)
	o.meter.Links += o.Balance(c, o.pace.Links, o.Left)
}

// goOn lets the table and the crawler go on.
func (o *core) goOn() {
	o.meter.Buckets += o.Table.Step(o.pace.Buckets)
	o.crawl(o.pace.Crawl)
}

// crawl looks at some items for dead ones.
func (o *core) crawl(most int) {
	looked, _ := o.Crawler.Step(o.Now(), most)
	o.meter.Crawled += looked
}
