package client

import (
	"iter"
	"slices"

	"granary/api"
)

// sent is a command that was sent, and whose reply has not passed.
type sent struct {
	number  int
	at      int         // the clock when it was sent first
	twice   bool        // was it sent into another stream, too?
	over    bool        // it has ended, and its reply is still to pass
	command api.Command // its heart
}

// heart is what is needed of a command: for its reply, and for its bytes, if it only reads.
func heart(m api.Command) api.Command {
	return api.Command{Verb: m.Verb, Keys: slices.Clone(m.Keys), What: m.What}
}

// ended is what is told of a command's end.
func (s *sent) ended(e api.Errno, a api.Answer) api.Done {
	return api.Done{Seq: s.number, Err: e, Answer: a}
}

// mayGoAgain: is it no harm to send a command into another stream, though it may have been done already?
func (s *sent) mayGoAgain() bool { return onlyReads(s.command) && !s.twice }

func onlyReads(m api.Command) bool {
	switch m.Verb {
	case api.Get, api.Gets, api.Version:
		return true
	case api.Stats:
		return m.What == ""
	}
	return false
}

// next takes the first command off the row.
func (c *Client) next() sent {
	first := c.row[0]
	c.row[0] = sent{} // the place lasts as long as those behind it: what it held need not
	c.row = c.row[1:]
	return first
}

// waiting tells the commands that have not ended, by their numbers: of the row, or kept.
func (c *Client) waiting() iter.Seq[*sent] {
	return func(yield func(*sent) bool) {
		for _, list := range [][]sent{c.row, c.kept} {
			for i := range list {
				if !list[i].over && !yield(&list[i]) {
					return
				}
			}
		}
	}
}
