package shard_test

import (
	"math"
	"math/rand/v2"
	"strconv"

	"granary/api"
)

// dice throw commands and batches.
type dice struct {
	*rand.Rand
	keys  int                     // how many there are
	odd   int                     // one command in so many is bad; 0: none is
	crowd bool                    // whether most commands store, and little dies
	token func(key string) uint64 // that of a key's item, as it is told, if somebody knows
	bad   []api.Command           // what the bad ones are picked from
}

func diceOf(seed uint64, keys int) *dice {
	return &dice{Rand: rand.New(rand.NewPCG(17, seed)), keys: keys, bad: badCommands("k0", "k1", "k2", "k3")}
}

// pick is one of some.
func pick[T any](d *dice, some ...T) T { return some[d.IntN(len(some))] }

func (d *dice) key() string { return "k" + strconv.Itoa(d.IntN(d.keys)) }

func (d *dice) some() (all []string) {
	for range pick(d, 1, 1, 2, 3, 5, 12) {
		all = append(all, d.key())
	}
	return all
}

func (d *dice) value() string {
	switch d.IntN(6) {
	case 0:
		return strconv.FormatUint(d.Uint64()>>d.IntN(64), 10)
	case 1:
		return pick(d, "99", "99999", "18446744073709551615", "", "x1", "007")
	case 2:
		return long(d.IntN(250))
	}
	return long(d.IntN(12))
}

func (d *dice) time() int {
	if d.crowd || d.IntN(3) > 0 {
		return 0
	}
	return pick(d, -1, 1, 2, 3, 5, 9, 40, 2592000, 2592001, math.MaxInt, math.MinInt)
}

// known is a token that a key's item may have, or another.
func (d *dice) known(key string) uint64 {
	if d.token == nil || d.IntN(5) == 0 {
		return d.Uint64N(200)
	}
	return d.token(key) + pick[uint64](d, 0, 0, 0, 1)
}

func (d *dice) verb() int {
	switch n := d.IntN(20); {
	case n == 0 && !d.crowd:
		return pick(d, api.FlushAll, api.FlushAll, api.Version, api.Verbosity, api.Quit)
	case n < 6, n < 14 && d.crowd:
		return api.Set
	case n < 9:
		return pick(d, many...)
	}
	return 1 + d.IntN(api.Touch)
}

// command is any one that is not bad.
func (d *dice) command() api.Command {
	c := api.Command{Verb: d.verb(), Keys: []string{d.key()}, Exptime: d.time(), Flags: d.Uint64() >> 32, Data: []byte(d.value())}
	if c.Verb <= api.Gats {
		c.Keys = d.some()
	}
	if c.Verb == api.FlushAll {
		c.Exptime = pick(d, 0, 0, -1, 1, 2, 5, 30)
	}
	c.Large = d.IntN(60) == 0
	c.Delta = d.Uint64() >> d.IntN(64)
	c.Token = d.known(c.Keys[0])
	c.Noreply = d.IntN(9) == 0
	return c
}

// batch is some commands, bad ones among them.
func (d *dice) batch(most int) []api.Command {
	all := make([]api.Command, d.IntN(most+1))
	for i := range all {
		if d.odd > 0 && d.IntN(d.odd) == 0 {
			all[i] = pick(d, d.bad...)
			continue
		}
		all[i] = d.command()
	}
	return all
}
