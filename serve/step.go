package serve

import (
	"granary/api"
	"granary/meta"
	"granary/reply"
)

// The names, in count's table, of the numbers that the server itself lays or adds to.
const (
	currItems = iota + 25
	bytesHeld
	totalConnections
	currConnections
	_ // crawled: a command's
	badLines
)

// reset is what makes a stats another command.
const reset = "reset"

// noNumber is the one refusal that is the client's fault.
const noNumber = "cannot increment or decrement non-numeric value"

// What stands ahead of a refusal.
const (
	clientError = "CLIENT_ERROR "
	serverError = "SERVER_ERROR "
)

// step is what a step is told.
func (s *Server) step(step api.Step) []byte {
	if step.Wrong.Kind != 0 {
		s.board.Add(badLines, 1)
		return reply.Wrong(step.Wrong)
	}
	// No answer of a command that has been read is refused here.
	told, _ := reply.Bytes(step.Command, worded(s.answer(step.Command)))
	return told
}

// answer does a command, and counts it.
func (s *Server) answer(c api.Command) api.Answer {
	var a api.Answer
	switch c.Verb {
	case api.Stats:
		return s.stats(c)
	case api.MetaNoop:
		// The store still tells of the command ahead of this one, which has been counted.
		a = meta.Do(s.store, c)
		s.board.Command(c, a, nil, api.Meter{})
		return a
	case api.MetaGet, api.MetaSet, api.MetaDelete, api.MetaArith:
		a = meta.Do(s.store, c)
	default:
		a = s.store.Do(c)
	}
	s.board.Command(c, a, s.store.Why(), s.store.Meter())
	return a
}

// stats tells the board, or sets it back.
func (s *Server) stats(c api.Command) api.Answer {
	if c.What == reset {
		s.board.Reset()
		return api.Answer{Kind: api.Reset}
	}
	s.board.Set(currItems, uint64(s.store.Len()))
	s.board.Set(bytesHeld, uint64(s.store.Bytes()))
	s.board.Set(currConnections, uint64(len(s.conns)))
	return api.Answer{Kind: api.Stat, Stats: s.board.Stats()}
}

// worded is an answer as it is told: a refusal says whose fault it is.
func worded(a api.Answer) api.Answer {
	if a.Kind != api.Refused {
		return a
	}
	if a.Text == noNumber {
		a.Text = clientError + a.Text
	} else {
		a.Text = serverError + a.Text
	}
	return a
}
