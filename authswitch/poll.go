package authswitch

import (
	"strconv"
	"strings"

	"cardnet/api"
	"cardnet/message"
)

// Poll returns what timeouts and repetitions require now.
func (s *Switch) Poll(at int) []Out {
	if s == nil || !s.isPermitted(at) {
		return nil
	}
	s.now = at
	var out []Out
	for _, key := range s.requests.Lost(at) {
		ref, _, _ := strings.Cut(key, "/")
		out = append(out, s.lose(s.purchases[ref])...)
	}
	return append(out, s.repeat()...)
}

// lose goes on after the party that was asked last has not answered.
func (s *Switch) lose(p *purchase) []Out {
	if p == nil {
		return nil
	}
	s.router.Fail(p.choice.Party)
	next, _ := s.router.After(p.choice)
	return s.goOn(p, next)
}

// repeat returns the advices and reversals that are due.
func (s *Switch) repeat() []Out {
	parties := s.router.Parties()
	var out []Out
	for _, x := range s.queue.Poll(s.now) {
		n, err := strconv.Atoi(x.Key[strings.LastIndex(x.Key, "/")+1:])
		m, e := message.Decode(x.Text)
		if err == nil && e == api.OK && n >= 0 && n < len(parties) {
			out = append(out, Out{parties[n], m})
		}
	}
	return out
}

// Next returns the time at which something is to be done.
func (s *Switch) Next() (int, bool) {
	if s == nil {
		return 0, false
	}
	timeout, waits := s.requests.Next()
	due, queued := s.queue.Next()
	if !waits {
		return due, queued
	}
	if !queued {
		return timeout, waits
	}
	return min(timeout, due), true
}

// Decision returns the response code of a purchase, and who decided: 1 the issuer, 2 a backup, 3 stand-in, 4 the switch.
func (s *Switch) Decision(ref string) (code string, by int, ok bool) {
	if s == nil || s.purchases[ref] == nil || s.purchases[ref].by == 0 {
		return "", 0, false
	}
	return s.purchases[ref].code, s.purchases[ref].by, true
}

// Waiting returns how many requests and advices are open.
func (s *Switch) Waiting() int {
	if s == nil {
		return 0
	}
	return len(s.requests.Waiting()) + len(s.queue.Waiting())
}
