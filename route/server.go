package route

import (
	"granary/api"
	"granary/client"
)

// server is what is known of a server. One that is down has no client, and all else is zero.
type server struct {
	client *client.Client
	out    []byte    // what is to go out to it
	flying []*errand // those that the client's row holds, in its order
	flush  *errand   // of one that is coming: the flush with which it comes up
}

// errand is a command that was to be sent to a server, and what became of it.
type errand struct {
	ended    bool
	answered bool
	answer   api.Answer // if it was answered
}

// isFine: was it done, as a flush is?
func (e *errand) isFine() bool { return e.answered && e.answer.Kind == api.Fine }

// begin gives a server a client: it is up.
func (s *server) begin(wait int) { *s = server{client: client.New(wait)} }

// isUp: does it take commands?
func (s *server) isUp() bool { return s.client != nil && s.flush == nil }

// send sends a command to a server, if that is up.
func (s *server) send(m api.Command) *errand {
	if !s.isUp() {
		return &errand{ended: true}
	}
	_, b, e := s.client.Send(m)
	if e != api.OK {
		// Its row is full: nothing else is refused of a client that is live and a command that has been read.
		return &errand{ended: true, answered: true, answer: refused(serverIsBusy)}
	}
	s.out = append(s.out, b...)
	if m.Noreply {
		return &errand{ended: true, answered: true}
	}
	waits := &errand{}
	s.flying = append(s.flying, waits)
	return waits
}

// handOut is what is to go out, which is forgotten.
func (s *server) handOut() []byte {
	out := s.out
	s.out = nil
	return out
}

// take takes what a server has answered.
func (s *server) take(chunk []byte) {
	if s.client == nil {
		return
	}
	for _, d := range s.client.Take(chunk) {
		s.end(d)
	}
	switch {
	case !s.client.Live():
		s.fall()
	case s.flush == nil || !s.flush.ended:
	case s.flush.isFine():
		s.flush = nil
	default:
		s.fall()
	}
}

// end ends the first of those that fly, as the client does: its row is theirs.
func (s *server) end(d api.Done) {
	first := s.flying[0]
	s.flying[0] = nil // the place lasts as long as those behind it: what it held need not
	s.flying = s.flying[1:]
	*first = errand{ended: true, answered: d.Err == api.OK, answer: d.Answer}
}

// fall: the server goes down. Nothing comes back of what flies.
func (s *server) fall() {
	for _, e := range s.flying {
		*e = errand{ended: true}
	}
	*s = server{}
}

// rise: a server that was down is coming. What it kept may be old: it takes no command till it has forgotten that.
func (s *server) rise(wait int) {
	if s.client != nil {
		return
	}
	s.begin(wait)
	s.flush = s.send(api.Command{Verb: api.FlushAll})
}

// tick moves a server's clock on. One that lets a command wait too long goes down.
func (s *server) tick(n int) {
	if s.client != nil && len(s.client.Tick(n)) > 0 {
		s.fall()
	}
}
