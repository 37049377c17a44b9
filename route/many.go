package route

import "granary/api"

// many does a command of many keys: each server is asked for its own.
func (t *Router) many(m api.Command) pending {
	owners := make([]int, len(m.Keys))
	parts := make([][]string, len(t.servers))
	for i, key := range m.Keys {
		n := t.owner(key)
		owners[i] = n
		parts[n] = append(parts[n], key)
	}
	var sent []*errand
	places := map[int]int{} // where among those that are sent a server's own stands
	for n, keys := range parts {
		if len(keys) > 0 {
			places[n] = len(sent)
			sent = append(sent, t.servers[n].send(api.Command{Verb: m.Verb, Keys: keys, Exptime: m.Exptime}))
		}
	}
	own := make([]int, len(owners))
	for i, n := range owners {
		own[i] = places[n]
	}
	keys := m.Keys
	return once(sent, func() api.Answer { return joined(keys, own, sent) })
}

// joined is the answer of all parts as one. Of each key it is said which part is its own.
func joined(keys []string, own []int, parts []*errand) api.Answer {
	rest := make([][]api.Entry, len(parts))
	for i, p := range parts {
		if p.answered && p.answer.Kind != api.Values {
			return p.answer
		}
		rest[i] = p.answer.Entries
	}
	all := api.Answer{Kind: api.Values}
	for i, key := range keys {
		if next := rest[own[i]]; len(next) > 0 && next[0].Key == key {
			all.Entries = append(all.Entries, next[0])
			rest[own[i]] = next[1:]
		}
	}
	return all
}
