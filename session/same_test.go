package session_test

import (
	"bytes"
	"testing"

	"millpond/api"
	"millpond/session"
)

// changes is each thing by which the session of used goes on.
func changes() map[string]func(*session.Session) {
	return map[string]func(*session.Session){
		"Send":                    func(s *session.Session) { s.Send([]byte("new")) },
		"Fresh":                   func(s *session.Session) { s.Fresh() },
		"Again":                   func(s *session.Session) { s.Again() },
		"Come of the next one":    func(s *session.Session) { s.Come(datagram(3, 1, "z")) },
		"Come of an early one":    func(s *session.Session) { s.Come(datagram(9, 1, "z")) },
		"Come of an old one":      func(s *session.Session) { s.Come(datagram(1, 1, "x")) },
		"Come of a higher Ack":    func(s *session.Session) { s.Come(datagram(0, 2, "")) },
		"Come of the highest Ack": func(s *session.Session) { s.Come(datagram(0, 3, "")) },
	}
}

// P8.4: a Copy is the same, and goes on apart, each way round; both go on alike.
func TestCopyGoesOnApart(t *testing.T) {
	for first, change := range changes() {
		for second, next := range changes() {
			s, other := used(t), used(t)
			c := s.Copy()
			if c == s || !session.Same(s, c) || !session.Same(c, s) {
				t.Fatal("a Copy is another one, and the same")
			}
			change(s)
			unchanged(t, first+" of a copied one", c, other)
			if session.Same(s, c) || session.Same(c, s) {
				t.Errorf("%s: the copy is the same yet", first)
			}
			change(c)
			unchanged(t, first+" of both", c, s)

			d := c.Copy()
			next(d)
			unchanged(t, second+" of a copy", c, s)
			next(c)
			unchanged(t, second+" of both", c, d)
		}
	}
}

// P8.4: what those that share a past send each on its own does not come to the others, however much waits when they part.
func TestCopiesSendApart(t *testing.T) {
	for many := 1; many <= 9; many++ {
		for known := range many + 1 {
			a, _ := ends(t)
			var all []api.Datagram
			for seq := range many {
				send(t, a, "p")
				all = append(all, datagram(int64(seq)+1, 0, "p"))
			}
			stays(t, a, back(0, int64(known), ""))
			apart := []*session.Session{a, a.Copy(), a.Copy().Copy()}
			for more := range 3 {
				for i, s := range apart {
					send(t, s, string(rune('a'+i+3*more)))
				}
			}
			for i, s := range apart {
				want := all[known:len(all):len(all)]
				for more := range 3 {
					want = append(want, datagram(int64(many+more)+1, 0, string(rune('a'+i+3*more))))
				}
				tells(t, "Again", s.Again(), want...)
			}
		}
	}
}

// P8.4: two of nil, zero and made ones.
func TestSameOfNone(t *testing.T) {
	none := []*session.Session{nil, {}}
	for _, a := range none {
		for _, b := range none {
			if !session.Same(a, b) {
				t.Errorf("%v and %v are not the same", a, b)
			}
		}
		for me := range api.MaxNodes {
			for other := range api.MaxNodes {
				if me == other {
					continue
				}
				s := made(t, me, other, 0)
				if session.Same(a, s) || session.Same(s, a) {
					t.Errorf("one of %d with %d is as none", me, other)
				}
			}
		}
	}
}

// built is a session behind a row of things.
func built(s *session.Session, do ...func(*session.Session)) *session.Session {
	for _, f := range do {
		f(s)
	}
	return s
}

func sends(body string) func(*session.Session) {
	return func(s *session.Session) { s.Send([]byte(body)) }
}

func gets(d api.Datagram) func(*session.Session) {
	return func(s *session.Session) { s.Come(d) }
}

func fresh(s *session.Session) { s.Fresh() }

func again(s *session.Session) { s.Again() }

// P8.4: sessions that differ in one thing alone are not the same.
func TestSameOfSessionsThatDifferInOneThing(t *testing.T) {
	of := func(me, other int, view int64, bodies ...string) *session.Session {
		s := made(t, me, other, view)
		send(t, s, bodies...)
		return s
	}
	x := datagram(1, 0, "x")
	one := func() *session.Session { return of(1, 0, 5, "p", "q") }
	pairs := map[string][2]*session.Session{
		"me":             {one(), of(2, 0, 5, "p", "q")},
		"other":          {one(), of(1, 2, 5, "p", "q")},
		"turned":         {one(), of(0, 1, 5, "p", "q")},
		"view":           {one(), of(1, 0, 6, "p", "q")},
		"a byte":         {one(), of(1, 0, 5, "p", "Q")},
		"longer":         {one(), of(1, 0, 5, "p", "q\x00")},
		"no bytes":       {one(), of(1, 0, 5, "", "q")},
		"order":          {one(), of(1, 0, 5, "q", "p")},
		"one more":       {one(), of(1, 0, 5, "p", "q", "")},
		"none":           {of(1, 0, 5), of(1, 0, 5, "")},
		"cut otherwise":  {one(), of(1, 0, 5, "pq", "")},
		"told by Fresh":  {one(), built(one(), fresh)},
		"told by Again":  {one(), built(one(), again)},
		"told in part":   {built(one(), fresh, sends("r")), built(one(), sends("r"), fresh)},
		"told, and not":  {built(one(), fresh, sends("r")), built(one(), sends("r"))},
		"told and known": {built(one(), gets(datagram(0, 2, ""))), built(one(), fresh, gets(datagram(0, 2, "")))},
		"known":          {built(one(), fresh), built(one(), fresh, gets(datagram(0, 1, "")))},
		"known number":   {built(of(1, 0, 5, "p", "q", "q"), fresh, gets(datagram(0, 2, ""))), built(of(1, 0, 5, "p", "q"), fresh, gets(datagram(0, 1, "")))},
		"all known":      {of(1, 0, 5), built(one(), fresh, gets(datagram(0, 2, "")))},
		"got":            {built(one(), fresh), built(one(), gets(x), fresh)},
		"got and owed":   {built(one(), gets(x)), built(one(), gets(x), gets(datagram(2, 0, "x")))},
		"owed":           {built(one(), again), built(one(), again, gets(datagram(2, 0, "x")))},
		"owed no more":   {built(one(), gets(x), again), built(one(), gets(x), again, gets(x))},
	}
	for name, p := range pairs {
		if session.Same(p[0], p[1]) || session.Same(p[1], p[0]) {
			t.Errorf("%s: they are the same", name)
		}
		for _, s := range p {
			if !session.Same(s, s) || !session.Same(s, s.Copy()) {
				t.Errorf("%s: it is not the same as itself", name)
			}
		}
	}
}

// P8.4: sessions that came to the same by other ways are the same.
func TestSameByOtherWays(t *testing.T) {
	_, b := ends(t)
	x, y := datagram(1, 0, "x"), datagram(2, 1, "y")
	straight := built(b.Copy(), sends("p"), sends("q"), fresh, gets(x), gets(y), again)
	for name, s := range map[string]*session.Session{
		"told by Again":      built(b.Copy(), sends("p"), sends("q"), gets(x), gets(y), again),
		"told by Fresh":      built(b.Copy(), sends("p"), gets(x), gets(y), sends("q"), fresh),
		"told one by one":    built(b.Copy(), sends("p"), fresh, sends("q"), again, gets(x), again, gets(y), fresh, fresh),
		"twice and early":    built(b.Copy(), sends("p"), sends("q"), gets(y), gets(x), gets(x), gets(y), gets(y), again),
		"with what was not":  built(b.Copy(), sends("p"), gets(back(1, 0, "x")), sends("q"), gets(x), gets(datagram(2, 3, "y")), gets(y), fresh),
		"known by nothing":   built(b.Copy(), sends("p"), sends("q"), gets(datagram(0, 1, "")), gets(x), gets(y), fresh),
		"known by a low Ack": built(b.Copy(), sends("p"), sends("q"), gets(x), gets(y), gets(datagram(0, 0, "")), fresh),
	} {
		unchanged(t, name, s, straight)
	}
	bare := made(t, 1, 0, 5)
	if e := bare.Send(nil); e != api.OK {
		t.Fatal(e)
	}
	unchanged(t, "nil for no bytes", bare, built(b.Copy(), sends("")))
}

// P8.4: to look at a session changes nothing.
func TestLookingChangesNothing(t *testing.T) {
	s, was := used(t), used(t)
	for range 2 {
		s.Waits()
		s.Got()
		s.Owes()
		s.Copy()
		session.Same(s, was)
	}
	unchanged(t, "looking", s, was)
}

// soil changes all bytes that lie in a slice, and behind it as far as its memory goes. To soil it a few times more does not bring them back.
func soil(b []byte) {
	b = b[:cap(b)]
	for i := range b {
		b[i]++
	}
}

// The rules for all layers: what is handed in stays as it was, and is not kept.
func TestWhatIsHandedInIsNotKept(t *testing.T) {
	a, b := ends(t)
	within := []byte("<body>")
	body := within[1:5]
	if e := a.Send(body); e != api.OK || string(within) != "<body>" {
		t.Fatalf("%v, %q", e, within)
	}
	c := a.Copy()
	soil(within)
	tells(t, "Fresh", a.Fresh(), datagram(1, 0, "body"))
	tells(t, "Fresh of the copy", c.Fresh(), datagram(1, 0, "body"))

	within = []byte("<come>")
	d := datagram(1, 0, "")
	d.Body = within[1:5]
	got, ok := b.Come(d)
	if !ok || string(got) != "come" || string(within) != "<come>" || d.Seq != 1 || d.From != 0 || d.To != 1 {
		t.Fatalf("%q, %v, %q", got, ok, within)
	}
	soil(got)
	if string(within) != "<come>" {
		t.Errorf("what was handed in shares bytes with what was handed on: %q", within)
	}
	got, _ = b.Come(api.Datagram{From: 0, To: 1, View: 5, Seq: 2, Body: within})
	soil(within)
	if string(got) != "<come>" {
		t.Errorf("what was handed on shares bytes with what was handed in: %q", got)
	}
}

// The rules for all layers: what is handed out is the caller's, by whatever it is told, of a session and of its copy.
func TestWhatIsHandedOutIsTheCallers(t *testing.T) {
	a, _ := ends(t)
	bodies := []string{"p", "qq", "", "rrr"}
	send(t, a, bodies...)
	var want []api.Datagram
	for i, body := range bodies {
		want = append(want, datagram(int64(i)+1, 0, body))
	}
	c := a.Copy()
	for _, all := range [][]api.Datagram{a.Fresh(), a.Again(), c.Again(), a.Again(), c.Again()} {
		tells(t, "what is told", all, want...)
		for i := range all {
			before := bytes.Clone(all[i].Body)
			for k := range all {
				if k != i {
					soil(all[k].Body)
				}
			}
			if !bytes.Equal(all[i].Body, before) {
				t.Errorf("two bodies of one answer share bytes")
			}
			soil(all[i].Body)
		}
		all = all[:cap(all)]
		for i := range all {
			all[i] = back(9, 9, "soiled")
		}
	}
	tells(t, "what is told yet", a.Again(), want...)
	tells(t, "what the copy tells yet", c.Again(), want...)
	unchanged(t, "what was handed out", a, c)
}
