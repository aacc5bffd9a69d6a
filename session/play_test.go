package session_test

import (
	"math/rand"
	"testing"

	"millpond/api"
	"millpond/session"
)

// end is a session beside what the chapter's words say of it: all that was sent and all that came out, from the first one on.
type end struct {
	s         *session.Session
	me, other int
	view      int64
	sent, out []string
	known     int // so many of sent, the first ones, are forgotten
	told      int
	owes      bool
}

func newEnd(t *testing.T, me, other int, view int64) *end {
	t.Helper()
	return &end{s: made(t, me, other, view), me: me, other: other, view: view}
}

func (e *end) datagram(seq int, body string) api.Datagram {
	return api.Datagram{From: e.me, To: e.other, View: e.view, Seq: int64(seq), Ack: int64(len(e.out)), Body: []byte(body)}
}

func (e *end) send(t *testing.T, body string) {
	t.Helper()
	send(t, e.s, body)
	e.sent = append(e.sent, body)
	e.stands(t)
}

// tell is Fresh or Again, held against the words.
func (e *end) tell(t *testing.T, anew bool) []api.Datagram {
	t.Helper()
	var want []api.Datagram
	for seq := e.known + 1; seq <= len(e.sent); seq++ {
		if anew || seq > e.told {
			want = append(want, e.datagram(seq, e.sent[seq-1]))
		}
	}
	if len(want) == 0 && e.owes {
		want = append(want, e.datagram(0, ""))
	}
	all := []api.Datagram(nil)
	if anew {
		all = e.s.Again()
	} else {
		all = e.s.Fresh()
	}
	tells(t, "what is told", all, want...)
	e.told, e.owes = len(e.sent), false
	e.stands(t)
	return all
}

// come is a datagram that comes, held against the words.
func (e *end) come(t *testing.T, d api.Datagram) {
	t.Helper()
	least, most := int64(0), int64(api.MaxNumber)
	is := d.From == e.other && d.To == e.me && d.View == e.view
	is = is && d.Seq >= least && d.Seq <= most && d.Ack >= least && d.Ack <= int64(len(e.sent))
	is = is && len(d.Body) <= api.MaxMessage && (d.Seq > 0 || len(d.Body) == 0)
	if !is {
		nothing(t, e.s, d)
		return
	}
	e.known = max(e.known, int(d.Ack))
	e.owes = e.owes || d.Seq > 0
	if d.Seq == int64(len(e.out))+1 {
		comes(t, e.s, d)
		e.out = append(e.out, string(d.Body))
	} else {
		stays(t, e.s, d)
	}
	e.stands(t)
}

func (e *end) stands(t *testing.T) {
	t.Helper()
	stands(t, e.s, len(e.sent)-e.known, int64(len(e.out)), e.owes)
}

// same is what two are held against each other by, in the words.
func (e *end) same(f *end) bool {
	if e.me != f.me || e.other != f.other || e.view != f.view || e.known != f.known || e.told != f.told || e.owes != f.owes || len(e.out) != len(f.out) || len(e.sent) != len(f.sent) {
		return false
	}
	for i := e.known; i < len(e.sent); i++ {
		if e.sent[i] != f.sent[i] {
			return false
		}
	}
	return true
}

// text is a body of few bytes, now and then of as many as may be.
func text(r *rand.Rand) string {
	b := make([]byte, r.Intn(3))
	if r.Intn(16) == 0 {
		b = make([]byte, api.MaxMessage)
	}
	r.Read(b)
	return string(b)
}

// any is a datagram of a session's, or nearly one, or none at all.
func (e *end) any(r *rand.Rand) api.Datagram {
	d := api.Datagram{From: e.other, To: e.me, View: e.view, Seq: int64(len(e.out) + r.Intn(4) - 1), Ack: int64(e.known + r.Intn(5) - 2), Body: []byte(text(r))}
	if d.Seq == 0 && r.Intn(2) == 0 {
		d.Body = nil
	}
	switch r.Intn(24) {
	case 0:
		d.From = r.Intn(api.MaxNodes+2) - 1
	case 1:
		d.To = r.Intn(api.MaxNodes+2) - 1
	case 2:
		d.View += r.Int63n(3) - 1
	case 3:
		d.Seq = api.MaxNumber + r.Int63n(2)
	case 4:
		d.Ack = api.MaxNumber + r.Int63n(2)
	case 5:
		d.Body = make([]byte, api.MaxMessage+r.Intn(2))
	case 6:
		d.Seq = -r.Int63n(3)
	case 7:
		d.Ack = int64(len(e.sent)) + r.Int63n(2)
	}
	return d
}

// P8.1 to P8.4: any rows of calls, with any datagrams, held against the chapter's words.
func TestAnyCalls(t *testing.T) {
	for seed := range int64(300) {
		r := rand.New(rand.NewSource(seed))
		me := r.Intn(api.MaxNodes)
		other := (me + 1 + r.Intn(api.MaxNodes-1)) % api.MaxNodes
		e := newEnd(t, me, other, r.Int63n(4))
		for range 200 {
			switch r.Intn(6) {
			case 0:
				e.send(t, text(r))
			case 1:
				e.tell(t, false)
			case 2:
				e.tell(t, true)
			default:
				e.come(t, e.any(r))
			}
		}
	}
}

// P8.4: of any two of few rows of calls Same says what the chapter's words say.
func TestSameOfAnyCalls(t *testing.T) {
	var all []*end
	for seed := range int64(400) {
		r := rand.New(rand.NewSource(seed))
		e := newEnd(t, 1, 0, 5)
		for range r.Intn(7) {
			switch r.Intn(5) {
			case 0, 1:
				e.send(t, "pq"[:r.Intn(2)])
			case 2:
				e.tell(t, r.Intn(2) == 0)
			default:
				e.come(t, datagram(r.Int63n(3), r.Int63n(3), ""))
			}
		}
		all = append(all, e)
	}
	same := 0
	for _, e := range all {
		for _, f := range all {
			if session.Same(e.s, f.s) != e.same(f) {
				t.Fatalf("Same: %v of %+v and %+v", !e.same(f), e, f)
			}
			if e != f && e.same(f) {
				same++
			}
		}
	}
	if same == 0 || same > len(all)*len(all)/2 {
		t.Errorf("%d of %d are the same: that tells little", same, len(all)*len(all))
	}
}

// pond is two ends and a net between them.
type pond struct {
	ends [2]*end
	way  []api.Datagram
}

func newPond(t *testing.T) *pond {
	return &pond{ends: [2]*end{newEnd(t, 0, 1, 5), newEnd(t, 1, 0, 5)}}
}

// deliver lets a datagram come at the end that it is to.
func (p *pond) deliver(t *testing.T, d api.Datagram) {
	t.Helper()
	p.ends[d.To].come(t, d)
	p.follows(t)
}

// follows fails unless what came out at each end is a beginning of what was sent at the other one.
func (p *pond) follows(t *testing.T) {
	t.Helper()
	for i, e := range p.ends {
		sent := p.ends[1-i].sent
		if len(e.out) > len(sent) {
			t.Fatalf("%d came out, %d were sent", len(e.out), len(sent))
		}
		for k, body := range e.out {
			if body != sent[k] {
				t.Fatalf("the one %d came out as %q, and was sent as %q", k+1, body, sent[k])
			}
		}
	}
}

// stir is one thing that happens to the net, by chance: a datagram comes, in any order, is lost, or is doubled.
func (p *pond) stir(t *testing.T, r *rand.Rand) {
	t.Helper()
	if len(p.way) == 0 {
		return
	}
	place := r.Intn(len(p.way))
	d := p.way[place]
	switch r.Intn(4) {
	case 0: // it comes, and is on its way yet
		p.deliver(t, d)
		return
	case 1, 2:
		p.deliver(t, d)
	}
	p.way = append(p.way[:place:place], p.way[place+1:]...)
}

// play is any sends, tellings and fates of datagrams.
func (p *pond) play(t *testing.T, r *rand.Rand, many int) {
	t.Helper()
	for range many {
		e := p.ends[r.Intn(2)]
		switch r.Intn(8) {
		case 0:
			e.send(t, text(r))
		case 1:
			p.way = append(p.way, e.tell(t, false)...)
		case 2:
			p.way = append(p.way, e.tell(t, true)...)
		default:
			p.stir(t, r)
		}
	}
}

// round is an Again of each, all of whose datagrams come in their order: one end's ahead of the other one's Again, or behind it.
func (p *pond) round(t *testing.T, first int, apart bool) {
	t.Helper()
	a, b := p.ends[first], p.ends[1-first]
	one := a.tell(t, true)
	if apart {
		for _, d := range one {
			p.deliver(t, d)
		}
		one = nil
	}
	for _, d := range append(one, b.tell(t, true)...) {
		p.deliver(t, d)
	}
}

// whole fails unless all that was sent at each end came out at the other one, and nothing waits.
func (p *pond) whole(t *testing.T) {
	t.Helper()
	for i, e := range p.ends {
		if e.s.Waits() != 0 || len(p.ends[1-i].out) != len(e.sent) {
			t.Fatalf("%d wait, and %d of %d came out", e.s.Waits(), len(p.ends[1-i].out), len(e.sent))
		}
	}
}

// P8.5, P0.10: whatever becomes of single datagrams, what comes out is a beginning of what was sent, each once, in order; behind two rounds nothing waits.
func TestAnyNetBetween(t *testing.T) {
	for seed := range int64(400) {
		r := rand.New(rand.NewSource(seed))
		p := newPond(t)
		for range 3 { // it goes on behind two rounds, with elder datagrams on their way yet
			p.play(t, r, r.Intn(150))
			first, apart := r.Intn(2), r.Intn(2) == 0
			p.round(t, first, apart)
			p.round(t, first, apart)
			p.whole(t)
		}
	}
}

// P0.10: all of it comes out, if datagrams are delivered now and then: one of each Again, whichever.
func TestNowAndThen(t *testing.T) {
	for seed := range int64(100) {
		r := rand.New(rand.NewSource(seed))
		p := newPond(t)
		for range 1 + r.Intn(6) {
			p.ends[r.Intn(2)].send(t, text(r))
		}
		for turn := 0; p.ends[0].s.Waits()+p.ends[1].s.Waits() > 0; turn++ {
			if turn == 2000 {
				t.Fatal("it does not come to an end")
			}
			for _, e := range p.ends {
				if all := e.tell(t, true); len(all) > 0 {
					p.deliver(t, all[r.Intn(len(all))])
				}
			}
		}
		p.whole(t)
	}
}

// P8.5: sessions of other views, and of other nodes, do not meddle, whatever comes of theirs.
func TestOthersDoNotMeddle(t *testing.T) {
	for seed := range int64(50) {
		r := rand.New(rand.NewSource(seed))
		p := newPond(t)
		others := []*end{newEnd(t, 0, 1, 4), newEnd(t, 1, 0, 6), newEnd(t, 2, 1, 5), newEnd(t, 2, 0, 5), newEnd(t, 0, 2, 5), newEnd(t, 1, 2, 5)}
		for range 20 {
			p.play(t, r, 10)
			e := others[r.Intn(len(others))]
			e.send(t, text(r))
			for _, d := range e.tell(t, true) {
				for _, mine := range p.ends {
					nothing(t, mine.s, d)
				}
			}
		}
		p.round(t, 0, true)
		p.round(t, 0, true)
		p.whole(t)
	}
}
