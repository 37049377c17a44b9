package shard

import (
	"granary/api"
	"granary/store"
)

// piece is one of the shards: a store whose tokens are told so that no other shard has the same.
type piece struct {
	store      *store.Store
	number, of uint64
}

// told is the store's token, as it is told.
func (p piece) told(token uint64) uint64 { return token*p.of + p.number }

// asked is the store's token that was told so. Of another shard's it is 0, which no item has.
func (p piece) asked(token uint64) uint64 {
	if token%p.of != p.number {
		return 0
	}
	return token / p.of
}

// do does a command whose tokens, asked and answered, are those that are told. Only a Cas looks at the one that it asks.
func (p piece) do(c api.Command) api.Answer {
	c.Token = p.asked(c.Token)
	a := p.store.Do(c)
	for i := range a.Entries {
		a.Entries[i].Token = p.told(a.Entries[i].Token)
	}
	return a
}
