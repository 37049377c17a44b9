package meta_test

import (
	"fmt"
	"math/rand"
	"reflect"
	"slices"
	"strings"
	"testing"

	"granary/api"
	"granary/meta"
	"granary/store"
)

// pair is two stores of one history: of the one meta commands are asked, of the other what they must do.
type pair struct {
	*testing.T
	r         *rand.Rand
	got, must *store.Store
	keys      int
	won       map[uint64]bool // the tokens of the stretches that have a winner
	seen      map[string]int  // how often each code came of each verb
}

func (p *pair) key() string { return fmt.Sprintf("k%03d", p.r.Intn(p.keys)) }

// behind is anything that may stand behind a letter, of a key's item.
func (p *pair) behind(verb int, letter byte, key string) string {
	switch letter {
	case 'O':
		return pick(p.r, "1", "xy", strings.Repeat("o", 32), "\xfe")
	case 'T', 'N':
		return pick(p.r, "0", "-0", "-1", "1", "3", "9", "30", "30", "0060", "2592000", "2592001", "9223372036854775807", "-9223372036854775808")
	case 'R':
		return pick(p.r, "0", "1", "2", "9", "10", "30", "31", "61", "2592001", "9223372036854775808", greatest)
	case 'C':
		e, _ := p.must.Find(key)
		return fmt.Sprint(pick(p.r, e.Token, e.Token, e.Token, e.Token+1, max(e.Token, 1)-1, 0, 1<<64-1, p.must.Issued(), p.must.Issued()+1))
	case 'D', 'J':
		return pick(p.r, "0", "1", "7", "007", "99999", "1000000", greatest)
	case 'F':
		return pick(p.r, "0", "7", "0042", "4294967295")
	}
	if verb == api.MetaSet {
		return pick(p.r, "S", "s", "E", "e", "R", "r", "A", "a", "P", "p")
	}
	return pick(p.r, "I", "i", "D", "d")
}

// command is any one that is not bad.
func (p *pair) command() api.Command {
	verb, key := pick(p.r, api.MetaGet, api.MetaGet, api.MetaSet, api.MetaSet, api.MetaDelete, api.MetaArith), p.key()
	bare := map[int]string{api.MetaGet: "kqvfctshl", api.MetaSet: "kqcI", api.MetaDelete: "kqcI", api.MetaArith: "kqvct"}[verb]
	full := map[int]string{api.MetaGet: "OTNR", api.MetaSet: "OTFCM", api.MetaDelete: "OTC", api.MetaArith: "OTNCMDJ"}[verb]
	c := api.Command{Verb: verb, Keys: []string{key}}
	for _, at := range p.r.Perm(len(bare) + len(full)) {
		if p.r.Intn(3) > 0 {
			continue
		}
		if at < len(bare) {
			c.Meta = append(c.Meta, api.Flag{Letter: bare[at]})
			continue
		}
		letter := full[at-len(bare)]
		c.Meta = append(c.Meta, api.Flag{Letter: letter, Arg: p.behind(verb, letter, key), Has: true})
	}
	if verb == api.MetaSet {
		c.Data = []byte(pick(p.r, "", "x", "5", "99999", greatest, long(30), long(90), long(180), long(197), long(198)))
		c.Large = p.r.Intn(30) == 0
	}
	return c
}

// ask does a meta command with both.
func (p *pair) ask() {
	p.Helper()
	c := p.command()
	ahead, is := p.must.Find(c.Keys[0])
	got, must := shown(p.T, meta.Do(p.got, c)), plainly(p.must, c)
	if got != must {
		p.Fatalf("%v, of %+v, is answered %q, not %q", c, ahead, got, must)
	}
	p.seen[fmt.Sprint(c.Verb, " ", strings.Fields(got)[0])]++
	if c.Verb == api.MetaGet {
		p.oneWinner(c, ahead, is, got)
	}
}

// oneWinner is W10: in each stretch one wins at most, and all others that see the item stale or won are told so.
func (p *pair) oneWinner(c api.Command, e api.Entry, is bool, line string) {
	p.Helper()
	line, _, _ = strings.Cut(line, ": ")
	marks := strings.Fields(line)
	has := func(mark string) bool { return slices.Contains(marks, mark) }
	token := e.Token
	if !is {
		token = p.must.Issued()
	}
	switch {
	case has("W") && has("Z"), has("X") != e.Stale, has("Z") != e.Won, e.Stale && !has("W") && !has("Z"):
		p.Fatalf("%v of %+v is told %q", c, e, line)
	case has("W") && p.won[token]:
		p.Fatalf("%v of %+v is told %q, which had a winner", c, e, line)
	case has("W"):
		p.won[token] = true
	}
}

// other does something else with both.
func (p *pair) other() {
	p.Helper()
	key := p.key()
	e, _ := p.must.Find(key)
	text := pick(p.r, "get "+key, "gat 30 "+key, "touch "+key+" 9", "touch "+key+" -1", "set "+key+" 5 30 2 / 50", "set "+key+" 5 0 1 / x", "incr "+key+" 5", "append "+key+" 0 0 1 / 7",
		fmt.Sprintf("cas %s 0 9 1 %d / 8", key, e.Token), "delete "+key, "get "+key+" "+p.key(), "tick 1", "tick 1", "tick 4", "tick 30", "restart", "flush_all 4", "flush_all 0")
	if text == "restart" {
		for _, s := range []**store.Store{&p.got, &p.must} {
			*s = restored(p.T, (*s).Config(), (*s).State(), (*s).Rows())
		}
		return
	}
	runs(p.T, p.got, text, calls(p.T, p.must, text))
}

func (p *pair) steps(n int) {
	p.Helper()
	for range n {
		p.step()
	}
}

func (p *pair) step() {
	p.Helper()
	if p.r.Intn(5) > 0 {
		p.ask()
	} else {
		p.other()
	}
	if p.got.Meter() != p.must.Meter() || !slices.Equal(p.got.Why(), p.must.Why()) || p.got.State() != p.must.State() {
		p.Fatalf("%+v, %d, %+v; not %+v, %d, %+v", p.got.Meter(), p.got.Why(), p.got.State(), p.must.Meter(), p.must.Why(), p.must.State())
	}
	if p.r.Intn(10) > 0 {
		return
	}
	if got, must := sightOf(p.got), sightOf(p.must); !reflect.DeepEqual(got, must) {
		p.Fatalf("%+v, not %+v", got, must)
	}
}

// P14.2 to P14.11: runs of any commands held against the chapter, in stores that are full and such as are not.
func TestModel(t *testing.T) {
	tight, lone := small(), small()
	tight.Pages = 3
	lone.ItemLimit, lone.Pages = 64, 1
	seen := map[string]int{}
	for i, c := range []api.Config{small(), tight, lone} {
		for k, keys := range []int{3, 20, 250} {
			for m, pace := range []api.Pace{usual(), slow(), {}, {Buckets: 1, Links: 9, Crawl: 9}} {
				p := &pair{t, rand.New(rand.NewSource(int64(100*i + 10*k + m))), paced(t, c, pace), paced(t, c, pace), keys, map[uint64]bool{}, seen}
				p.steps(3000)
			}
		}
	}
	p := &pair{t, rand.New(rand.NewSource(999)), crowded(t), crowded(t), 9, map[uint64]bool{}, seen}
	p.steps(5000)
	for _, want := range []string{"20 HD", "20 VA", "20 EN", "20 -", "20 !", "21 HD", "21 NS", "21 EX", "21 NF", "21 -", "21 !", "22 HD", "22 EX", "22 NF", "22 -", "23 HD", "23 VA", "23 EX", "23 NF", "23 -", "23 !"} {
		if seen[want] == 0 {
			t.Errorf("%s never came", want)
		}
	}
}
