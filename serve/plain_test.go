package serve_test

import (
	"fmt"
	"math/big"
	"regexp"
	"slices"
	"strconv"
	"strings"
	"testing"

	"granary/api"
)

// thing is an entry of the plain map.
type thing struct {
	value, flags string
	token        uint64
	expiry       int
}

// plain is a server said plainly, with no layer below it: a map, a clock, a token counter. It has room for everything, and reads right commands of the classic verbs alone.
type plain struct {
	now, pending int
	issued, cut  uint64
	things       map[string]*thing
	rest         map[int]string // of each open connection
	last         int
	sums         map[string]uint64
}

func plainOf() *plain {
	return &plain{now: 1, things: map[string]*thing{}, rest: map[int]string{}, sums: sums("")}
}

func (p *plain) do(e api.Event) answer {
	_, open := p.rest[e.Conn]
	switch e.Kind {
	case api.Open:
		p.last++
		p.rest[p.last] = ""
		p.sums["total_connections"]++
		return answer{string([]byte{0, byte(p.last >> 16), byte(p.last >> 8), byte(p.last)}), api.OK}
	case api.Tick:
		p.now += e.N
		if p.pending > 0 && p.pending <= p.now {
			p.cut, p.pending = p.issued, 0
		}
		return answer{}
	}
	if !open {
		return answer{"", api.ErrConn}
	}
	if e.Kind == api.Close {
		delete(p.rest, e.Conn)
		return answer{}
	}
	p.rest[e.Conn] += string(e.Bytes)
	out := ""
	for {
		words, block, used := cutOff(p.rest[e.Conn])
		if used == 0 {
			return answer{out, api.OK}
		}
		p.rest[e.Conn] = p.rest[e.Conn][used:]
		out += p.told(words, block)
		if words[0] == "quit" {
			delete(p.rest, e.Conn)
			return answer{out, api.OK}
		}
	}
}

// cutOff is the first command of some bytes, and how many it takes; 0, if it is not whole.
func cutOff(raw string) (words []string, block string, used int) {
	line, behind, whole := strings.Cut(raw, "\n")
	if !whole {
		return nil, "", 0
	}
	words = strings.FieldsFunc(line, func(r rune) bool { return r == ' ' || r == '\r' })
	used = len(line) + 1
	if slices.Contains([]string{"set", "add", "replace", "append", "prepend", "cas"}, words[0]) {
		n, _ := strconv.Atoi(words[4])
		if len(behind) < n+2 {
			return nil, "", 0
		}
		block = behind[:n]
		used += n + 2
	}
	return words, block, used
}

// least is how many words a line has that may end with noreply.
var least = map[string]int{"set": 5, "add": 5, "replace": 5, "append": 5, "prepend": 5, "cas": 6, "delete": 2, "incr": 3, "decr": 3, "touch": 3, "flush_all": 1, "verbosity": 2}

func (p *plain) told(words []string, block string) string {
	n, may := least[words[0]]
	quiet := may && len(words) > n && words[len(words)-1] == "noreply"
	if quiet {
		words = words[:len(words)-1]
	}
	out := lines(p.answer(words, block))
	if strings.HasPrefix(out, "SERVER_ERROR") || strings.HasPrefix(out, "CLIENT_ERROR") {
		p.sums["refused"]++
	}
	if quiet {
		return ""
	}
	return out
}

func (p *plain) answer(words []string, block string) string {
	switch words[0] {
	case "get", "gets":
		return p.get(words[0] == "gets", words[1:], nil)
	case "gat", "gats":
		t := timeOf(words[1])
		return p.get(words[0] == "gats", words[2:], &t)
	case "set", "add", "replace", "append", "prepend", "cas":
		p.sums["cmd_set"]++
		out := p.store(words, block)
		if out == "STORED|" {
			p.sums["total_items"]++
		}
		if words[0] == "cas" {
			p.count(map[string]string{"STORED|": "cas_hits", "EXISTS|": "cas_badval", "NOT_FOUND|": "cas_misses"}[out])
		}
		return out
	case "delete":
		if p.live(words[1]) == nil {
			p.count("delete_misses")
			return "NOT_FOUND|"
		}
		delete(p.things, words[1])
		p.count("delete_hits")
		return "DELETED|"
	case "incr", "decr":
		return p.add(words)
	case "touch":
		p.count("cmd_touch")
		x := p.live(words[1])
		if x == nil {
			p.count("touch_misses")
			return "NOT_FOUND|"
		}
		x.expiry = p.expiry(timeOf(words[2]))
		p.count("touch_hits")
		return "TOUCHED|"
	case "flush_all":
		p.count("cmd_flush")
		p.flush(append(words, "0")[1])
		return "OK|"
	case "version":
		return "VERSION granary 1|"
	case "verbosity":
		return "OK|"
	case "stats":
		return p.stats(len(words) > 1)
	}
	return ""
}

func (p *plain) count(name string) {
	if name != "" {
		p.sums[name]++
	}
}

func timeOf(word string) int {
	n, err := strconv.Atoi(word)
	if err != nil {
		panic(err)
	}
	return n
}

func (p *plain) expiry(t int) int {
	switch {
	case t == 0:
		return 0
	case t < 0:
		return p.now
	case t <= 30*24*60*60:
		return p.now + t
	}
	return t
}

func (p *plain) flush(word string) {
	p.pending = 0
	if t := timeOf(word); t > 0 {
		p.pending = p.now + t
	} else {
		p.cut = p.issued
	}
}

func (p *plain) live(key string) *thing {
	x := p.things[key]
	if x != nil && (x.expiry > 0 && x.expiry <= p.now || x.token <= p.cut) {
		delete(p.things, key)
		return nil
	}
	return x
}

func (p *plain) get(token bool, keys []string, t *int) string {
	out := ""
	for _, key := range keys {
		x := p.live(key)
		p.count("cmd_get")
		if t != nil {
			p.count("cmd_touch")
		}
		if x == nil {
			p.count("get_misses")
			if t != nil {
				p.count("touch_misses")
			}
			continue
		}
		p.count("get_hits")
		out += fmt.Sprintf("VALUE %s %s %d", key, x.flags, len(x.value))
		if token {
			out += fmt.Sprint(" ", x.token)
		}
		out += "\r\n" + x.value + "\r\n"
		if t != nil {
			p.count("touch_hits")
			x.expiry = p.expiry(*t)
		}
	}
	return out + "END\r\n"
}

func size(key, value string) int { return 58 + len(key) + len(value) }

func (p *plain) put(key, value, flags string, expiry int) string {
	p.issued++
	p.things[key] = &thing{value, strings.TrimLeft(flags[:len(flags)-1], "0") + flags[len(flags)-1:], p.issued, expiry}
	return "STORED|"
}

func (p *plain) store(words []string, block string) string {
	verb, key := words[0], words[1]
	x := p.live(key)
	joins := verb == "append" || verb == "prepend"
	if size(key, block) > 256 {
		if !joins {
			delete(p.things, key)
		}
		return tooLarge
	}
	switch {
	case verb == "add" && x != nil, (joins || verb == "replace") && x == nil:
		return "NOT_STORED|"
	case verb == "cas" && x == nil:
		return "NOT_FOUND|"
	case verb == "cas" && strconv.FormatUint(x.token, 10) != words[5]:
		return "EXISTS|"
	case joins && size(key, x.value+block) > 256:
		return tooLarge
	case verb == "append":
		return p.put(key, x.value+block, x.flags, x.expiry)
	case verb == "prepend":
		return p.put(key, block+x.value, x.flags, x.expiry)
	}
	return p.put(key, block, words[2], p.expiry(timeOf(words[3])))
}

var aNumber = regexp.MustCompile(`^[0-9]{1,20}$`)

func (p *plain) add(words []string) string {
	x := p.live(words[1])
	if x == nil {
		p.count(words[0] + "_misses")
		return "NOT_FOUND|"
	}
	n, _ := new(big.Int).SetString("0"+x.value, 10)
	if !aNumber.MatchString(x.value) || n.BitLen() > 64 {
		return noNumber
	}
	by, _ := new(big.Int).SetString(words[2], 10)
	if words[0] == "incr" {
		n.Add(n, by)
		n.SetBit(n, 64, 0)
	} else if n.Sub(n, by).Sign() < 0 {
		n.SetInt64(0)
	}
	if size(words[1], n.String()) > 256 {
		return tooLarge
	}
	p.put(words[1], n.String(), x.flags, x.expiry)
	p.count(words[0] + "_hits")
	return n.String() + "|"
}

func (p *plain) stats(reset bool) string {
	if reset {
		p.sums = sums("")
		return "RESET|"
	}
	p.sums["curr_connections"] = uint64(len(p.rest))
	p.sums["curr_items"], p.sums["bytes"] = uint64(len(p.things)), 0
	for key, x := range p.things {
		p.sums["bytes"] += uint64(size(key, x.value))
	}
	out := ""
	for _, name := range strings.Fields(names) {
		out += fmt.Sprintf("STAT %s %d|", name, p.sums[name])
	}
	return out + "END|"
}

// unseen are the lines of stats that hang on the crawler, and on when what is dead is taken away.
var unseen = regexp.MustCompile(`STAT (get_expired|get_flushed|crawled|curr_items|bytes) \d+\r\n`)

// crawlers is the line that hangs on the crawler alone.
var crawlers = regexp.MustCompile(`STAT crawled \d+\r\n`)

// W1, W2, W3(a), W5, W11: where there is room, a script of the classic verbs, cut anywhere, is answered as by the plain map.
func TestPlain(t *testing.T) {
	for seed := range uint64(60) {
		d := diceOf(seed)
		d.plain, d.calm = true, seed%3 == 0
		hide := unseen
		if d.calm { // nothing dies: so all but what was crawled is told by the map
			hide = crawlers
		}
		s, p := paced(t, wide(), pick(d, usual(), slow(), api.Pace{}, api.Pace{Buckets: 1, Links: 99, Crawl: 99}), 0), plainOf()
		d.token = func(key string) uint64 {
			if x := p.things[key]; x != nil {
				return x.token
			}
			return 1
		}
		for i := range 1000 {
			e := d.event()
			b, no := s.Do(e)
			got, must := answer{hide.ReplaceAllString(string(b), ""), no}, p.do(e)
			must.bytes = hide.ReplaceAllString(must.bytes, "")
			if got != must {
				t.Fatalf("seed %d, event %d: %.400q on %d is told %v, not %v", seed, i, e.Bytes, e.Conn, got, must)
			}
		}
		if s.Now() != p.now || len(s.Conns()) != len(p.rest) {
			t.Errorf("seed %d: Now %d, not %d; Conns %v, not %d", seed, s.Now(), p.now, s.Conns(), len(p.rest))
		}
	}
}
