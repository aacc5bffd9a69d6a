package session_test

import (
	"bytes"
	"math"
	"slices"
	"testing"

	"millpond/api"
	"millpond/session"
)

// made is a session of two nodes in a view.
func made(t *testing.T, me, other int, view int64) *session.Session {
	t.Helper()
	s, e := session.New(me, other, view)
	if s == nil || e != api.OK {
		t.Fatalf("New(%d, %d, %d): %v, %v", me, other, view, s, e)
	}
	return s
}

// ends are the two ends of a session of the nodes 0 and 1 in the view 5.
func ends(t *testing.T) (a, b *session.Session) {
	t.Helper()
	return made(t, 0, 1, 5), made(t, 1, 0, 5)
}

// send fails unless each of the bodies is sent.
func send(t *testing.T, s *session.Session, bodies ...string) {
	t.Helper()
	for _, body := range bodies {
		if e := s.Send([]byte(body)); e != api.OK {
			t.Fatalf("Send of %d bytes: %v", len(body), e)
		}
	}
}

// datagram is one from the node 0 to the node 1 in the view 5, with a text as its bytes.
func datagram(seq, ack int64, body string) api.Datagram {
	return api.Datagram{From: 0, To: 1, View: 5, Seq: seq, Ack: ack, Body: []byte(body)}
}

// back is one from the node 1 to the node 0.
func back(seq, ack int64, body string) api.Datagram {
	return api.Datagram{From: 1, To: 0, View: 5, Seq: seq, Ack: ack, Body: []byte(body)}
}

// alike tells whether two datagrams are the same in all.
func alike(a, b api.Datagram) bool {
	return a.From == b.From && a.To == b.To && a.View == b.View && a.Seq == b.Seq && a.Ack == b.Ack && bytes.Equal(a.Body, b.Body)
}

// tells fails unless just these were told.
func tells(t *testing.T, what string, got []api.Datagram, want ...api.Datagram) {
	t.Helper()
	if !slices.EqualFunc(got, want, alike) {
		t.Fatalf("%s: %v, not %v", what, got, want)
	}
}

// stands fails unless that is what a session says when it is looked at.
func stands(t *testing.T, s *session.Session, waits int, got int64, owes bool) {
	t.Helper()
	if s.Waits() != waits || s.Got() != got || s.Owes() != owes {
		t.Fatalf("Waits %d, Got %d, Owes %v; not %d, %d, %v", s.Waits(), s.Got(), s.Owes(), waits, got, owes)
	}
}

// comes fails unless a datagram that comes is handed on with just these bytes.
func comes(t *testing.T, s *session.Session, d api.Datagram) {
	t.Helper()
	if body, ok := s.Come(d); !ok || !bytes.Equal(body, d.Body) {
		t.Fatalf("Come(%v): %q, %v", d, body, ok)
	}
}

// stays fails unless a datagram that comes is not handed on.
func stays(t *testing.T, s *session.Session, d api.Datagram) {
	t.Helper()
	if body, ok := s.Come(d); ok || body != nil {
		t.Fatalf("Come(%v): %q, %v", d, body, ok)
	}
}

// nothing fails unless a datagram is nothing to a session.
func nothing(t *testing.T, s *session.Session, d api.Datagram) {
	t.Helper()
	was := s.Copy()
	stays(t, s, d)
	unchanged(t, "a datagram that is nothing", s, was)
}

// unchanged fails unless a session is as it was, also in what it tells.
func unchanged(t *testing.T, what string, s, was *session.Session) {
	t.Helper()
	if !session.Same(s, was) || !session.Same(was, s) {
		t.Fatalf("%s has changed the session", what)
	}
	stands(t, s, was.Waits(), was.Got(), was.Owes())
	for _, tell := range []func(*session.Session) []api.Datagram{(*session.Session).Fresh, (*session.Session).Again} {
		tells(t, "behind "+what, tell(s.Copy()), tell(was.Copy())...)
	}
}

// P8.1: New of each two nodes that are, and of none that is not.
func TestNewOfNodes(t *testing.T) {
	for me := -2; me <= api.MaxNodes+1; me++ {
		for other := -2; other <= api.MaxNodes+1; other++ {
			if me < 0 || other < 0 || me >= api.MaxNodes || other >= api.MaxNodes || me == other {
				refused(t, me, other, 1)
				continue
			}
			s := made(t, me, other, 1)
			stands(t, s, 0, 0, false)
			tells(t, "Fresh of a new one", s.Fresh())
			tells(t, "Again of a new one", s.Again())
			send(t, s, "x")
			tells(t, "Fresh", s.Fresh(), api.Datagram{From: me, To: other, View: 1, Seq: 1, Body: []byte("x")})
		}
	}
	for _, far := range []int{math.MaxInt, math.MinInt, 1 << 32, 1<<32 + 1, 1 << 8} {
		refused(t, far, 0, 1)
		refused(t, 0, far, 1)
		refused(t, far, far, 1)
	}
}

func refused(t *testing.T, me, other int, view int64) {
	t.Helper()
	if s, e := session.New(me, other, view); s != nil || e != api.ErrArg {
		t.Errorf("New(%d, %d, %d): %v, %v", me, other, view, s, e)
	}
}

// P8.1: New of views at their bounds and just beyond.
func TestNewOfViews(t *testing.T) {
	for _, view := range []int64{0, 1, 2, 1 << 31, 1 << 32, api.MaxNumber - 1, api.MaxNumber} {
		s := made(t, 7, 6, view)
		stands(t, s, 0, 0, false)
		send(t, s, "x")
		tells(t, "Fresh", s.Fresh(), api.Datagram{From: 7, To: 6, View: view, Seq: 1, Body: []byte("x")})
		comes(t, s, api.Datagram{From: 6, To: 7, View: view, Seq: 1, Body: []byte("y")})
	}
	for _, view := range []int64{-1, -2, math.MinInt64, api.MaxNumber + 1, math.MaxInt64} {
		refused(t, 7, 6, view)
	}
}

// P8.1 to P8.4: the chapter's examples.
func TestExamples(t *testing.T) {
	a, b := ends(t)
	send(t, a, "x", "y")
	x, y := datagram(1, 0, "x"), datagram(2, 0, "y")
	tells(t, "Fresh", a.Fresh(), x, y)
	tells(t, "Fresh", a.Fresh())

	stays(t, b, y)
	comes(t, b, x)
	stays(t, b, x)
	comes(t, b, y)

	o := b.Fresh()
	tells(t, "Fresh of what is owed", o, back(0, 2, ""))
	stays(t, a, o[0])
	stands(t, a, 0, 0, false)

	refused(t, 0, 0, 1)
	refused(t, 0, 8, 1)
	y.View, y.Seq = 6, 3
	nothing(t, b, y)
}

// P8.1: bodies of 0 to MaxMessage bytes are sent, of one more none.
func TestSendOfEachLength(t *testing.T) {
	a, b := ends(t)
	var want []api.Datagram
	for many := range api.MaxMessage + 1 {
		body := make([]byte, many)
		for i := range body {
			body[i] = byte(i*7 + many)
		}
		send(t, a, string(body))
		want = append(want, datagram(int64(many)+1, 0, string(body)))
		stands(t, a, many+1, 0, false)
	}
	for _, many := range []int{api.MaxMessage + 1, api.MaxMessage + 2, 2 * api.MaxMessage, api.MaxText} {
		was := a.Copy()
		if e := a.Send(make([]byte, many)); e != api.ErrLong {
			t.Errorf("Send of %d bytes: %v", many, e)
		}
		unchanged(t, "a Send that is refused", a, was)
	}
	if e := a.Send(nil); e != api.OK {
		t.Errorf("Send of nil: %v", e)
	}
	want = append(want, datagram(api.MaxMessage+2, 0, ""))
	tells(t, "Fresh", a.Fresh(), want...)
	for _, d := range want {
		comes(t, b, d)
	}
	stands(t, b, 0, api.MaxMessage+2, true)
}

// P8.1 to P8.4: no session and a zero one answer alike, ahead of all other errors, and nothing of it comes to something.
func TestNoSession(t *testing.T) {
	for _, s := range []*session.Session{nil, {}} {
		for range 2 {
			for _, many := range []int{0, 1, api.MaxMessage, api.MaxMessage + 1} {
				if e := s.Send(make([]byte, many)); e != api.ErrNil {
					t.Errorf("Send of %d bytes: %v", many, e)
				}
			}
			tells(t, "Fresh", s.Fresh())
			tells(t, "Again", s.Again())
			for _, d := range []api.Datagram{{}, {Seq: 1}, {Seq: 1, Body: []byte("x")}, datagram(1, 0, "x"), back(1, 0, "x")} {
				stays(t, s, d)
			}
			stands(t, s, 0, 0, false)
			if c := s.Copy(); c != nil {
				t.Errorf("Copy: %v", c)
			}
			for _, other := range []*session.Session{nil, {}} {
				if !session.Same(s, other) {
					t.Errorf("%v and %v are not the same", s, other)
				}
			}
		}
	}
}
