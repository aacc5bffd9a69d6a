package session

import (
	"bytes"

	"millpond/api"
)

// Fresh tells what was sent and was not told yet.
func (s *Session) Fresh() []api.Datagram {
	if s.none() {
		return nil
	}
	return s.tell(max(s.told, s.known)) // the other one may say that it got what was never told: that is forgotten
}

// Again tells all that waits.
func (s *Session) Again() []api.Datagram {
	if s.none() {
		return nil
	}
	return s.tell(s.known)
}

// tell tells what waits behind a number; where that is none, what is owed.
func (s *Session) tell(behind int64) []api.Datagram {
	datagram := func(seq int64, body []byte) api.Datagram {
		return api.Datagram{From: s.me, To: s.other, View: s.view, Seq: seq, Ack: s.got, Body: bytes.Clone(body)}
	}
	var all []api.Datagram
	for i, body := range s.waits[behind-s.known:] {
		all = append(all, datagram(behind+1+int64(i), body))
	}
	if len(all) == 0 && s.owes {
		all = append(all, datagram(0, nil))
	}
	s.told, s.owes = s.sent(), false
	return all
}

// Come lets a datagram come: its body, where it is handed on.
func (s *Session) Come(d api.Datagram) ([]byte, bool) {
	if s.none() || s.nothing(d) {
		return nil, false
	}
	s.forget(d.Ack)
	switch {
	case d.Seq == 0:
		return nil, false
	case d.Seq != s.got+1: // it came already, or others are to come ahead of it; who sent it is told up to where it goes
		s.owes = true
		return nil, false
	}
	s.got, s.owes = d.Seq, true
	return bytes.Clone(d.Body), true
}

// nothing tells whether a datagram is none of this session's, or may not be.
func (s *Session) nothing(d api.Datagram) bool {
	switch {
	case d.From != s.other || d.To != s.me || d.View != s.view:
		return true
	case !isNumber(d.Seq) || !isNumber(d.Ack) || d.Ack > s.sent():
		return true
	case d.Seq == 0 && len(d.Body) > 0 || len(d.Body) > api.MaxMessage:
		return true
	}
	return false
}

// forget lets what was sent up to a number wait no more. A datagram that went past others may name a lower one than is known.
func (s *Session) forget(ack int64) {
	if ack > s.known {
		s.waits, s.known = s.waits[ack-s.known:], ack
	}
}
