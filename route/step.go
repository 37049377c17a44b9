package route

import (
	"slices"

	"granary/api"
	"granary/reply"
)

// What the router itself answers.
const (
	version       = "granary 1"
	noop          = "MN"
	miss          = "EN"
	notHere       = "SERVER_ERROR not here"
	tooLarge      = "SERVER_ERROR object too large for cache"
	serverIsDown  = "SERVER_ERROR server is down"
	serverIsBusy  = "SERVER_ERROR server is busy"
	someAreSilent = "SERVER_ERROR some servers did not answer"
)

// quietFlag is the letter of the flag with which a meta command may be told nothing.
const quietFlag = 'q'

// pending is a command's answer, and whether it has come.
type pending func() (api.Answer, bool)

func refused(text string) api.Answer { return api.Answer{Kind: api.Refused, Text: text} }

// at is an answer that has come already.
func at(a api.Answer) pending {
	return func() (api.Answer, bool) { return a, true }
}

// once is an answer that comes when all of some errands have ended: it is worked out then.
func once(errands []*errand, answer func() api.Answer) pending {
	return func() (api.Answer, bool) {
		if slices.ContainsFunc(errands, func(e *errand) bool { return !e.ended }) {
			return api.Answer{}, false
		}
		return answer(), true
	}
}

// step does a step of a connection, and lays down what it is owed.
func (t *Router) step(conn int, s api.Step) {
	if s.Wrong.Kind != 0 {
		told := reply.Wrong(s.Wrong)
		t.owe(conn, func() ([]byte, bool) { return told, true })
		return
	}
	m := s.Command
	if m.Verb == api.Quit {
		return
	}
	answer := t.do(m)
	if m.Noreply {
		return
	}
	asked := api.Command{Verb: m.Verb, Keys: m.Keys} // all that a reply hangs on
	t.owe(conn, func() ([]byte, bool) {
		a, come := answer()
		if !come {
			return nil, false
		}
		// No answer that a client takes for a command, or that stands here for it, is refused.
		told, _ := reply.Bytes(asked, a)
		return told, true
	})
}

// do does a command.
func (t *Router) do(m api.Command) pending {
	switch m.Verb {
	case api.Version:
		return at(api.Answer{Kind: api.Told, Text: version})
	case api.Verbosity:
		return at(api.Answer{Kind: api.Fine})
	case api.MetaNoop:
		return at(api.Answer{Kind: api.Meta, Text: noop})
	case api.Stats:
		return at(refused(notHere))
	}
	if isQuiet(m) {
		return at(refused(notHere))
	}
	if m.Large {
		return t.large(m)
	}
	switch m.Verb {
	case api.FlushAll:
		return t.flush(m)
	case api.Get, api.Gets, api.Gat, api.Gats:
		return t.many(m)
	}
	return t.single(m)
}

// isQuiet: may a command be told nothing, so that nobody could tell whose the next reply is?
func isQuiet(m api.Command) bool {
	return slices.ContainsFunc(m.Meta, func(f api.Flag) bool { return f.Letter == quietFlag })
}

// owner is the number of a key's server.
func (t *Router) owner(key string) int {
	n, _ := t.ring.Owner([]byte(key)) // the ring has servers
	return n
}

// toOwner sends a command of one key to that key's server.
func (t *Router) toOwner(m api.Command) *errand { return t.servers[t.owner(m.Keys[0])].send(m) }

// single does a command of one key.
func (t *Router) single(m api.Command) pending {
	sent := t.toOwner(m)
	verb := m.Verb
	return once([]*errand{sent}, func() api.Answer {
		switch {
		case sent.answered:
			return sent.answer
		case verb == api.MetaGet:
			return api.Answer{Kind: api.Meta, Text: miss}
		}
		return refused(serverIsDown)
	})
}

// large does a command whose block was too large to be kept. Where it would have taken the place of an item, that must not be read any more.
func (t *Router) large(m api.Command) pending {
	if m.Verb == api.Append || m.Verb == api.Prepend {
		return at(refused(tooLarge))
	}
	sent := t.toOwner(api.Command{Verb: api.Delete, Keys: m.Keys})
	return once([]*errand{sent}, func() api.Answer {
		if sent.answered {
			return refused(tooLarge)
		}
		return refused(serverIsDown)
	})
}

// flush does a flush_all, of all servers that are up: one that isn't is flushed when it comes up.
func (t *Router) flush(m api.Command) pending {
	var sent []*errand
	for i := range t.servers {
		if s := &t.servers[i]; s.isUp() {
			sent = append(sent, s.send(m))
		}
	}
	return once(sent, func() api.Answer {
		if len(sent) == 0 || slices.ContainsFunc(sent, func(e *errand) bool { return !e.isFine() }) {
			return refused(someAreSilent)
		}
		return api.Answer{Kind: api.Fine}
	})
}
