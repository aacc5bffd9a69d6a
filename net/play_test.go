package net_test

import (
	"math/rand"
	"slices"
	"testing"

	"millpond/api"
	"millpond/net"
)

// play is a net as the chapter's words say that it goes on, beside the net itself.
type play struct {
	nodes int
	n     *net.Net
	last  int64
	all   []api.Letter
	sent  map[int64]api.Letter // each that was ever sent or doubled
	gone  map[int64]int        // how often it was delivered or lost
}

func newPlay(t *testing.T, nodes int) *play {
	return &play{nodes: nodes, n: made(t, nodes), sent: map[int64]api.Letter{}, gone: map[int64]int{}}
}

func (p *play) put(from, to int, body string) {
	p.last++
	l := letter(p.last, from, to, body)
	p.all = append(p.all, l)
	p.sent[p.last] = l
}

// some is a number: mostly of one on its way, now and then of any.
func (p *play) some(r *rand.Rand) (int64, int) {
	if len(p.all) > 0 && r.Intn(4) > 0 {
		place := r.Intn(len(p.all))
		return p.all[place].Number, place
	}
	number := r.Int63n(p.last+4) - 1
	return number, slices.IndexFunc(p.all, func(l api.Letter) bool { return l.Number == number })
}

func (p *play) send(t *testing.T, r *rand.Rand) {
	from, to, body := r.Intn(p.nodes+2)-1, r.Intn(p.nodes+2)-1, make([]byte, r.Intn(4))
	if r.Intn(8) == 0 {
		body = make([]byte, api.MaxLetter-1+r.Intn(3))
	}
	r.Read(body)
	switch {
	case from < 0 || to < 0 || from >= p.nodes || to >= p.nodes || from == to:
		unsent(t, p.n, from, to, body, api.ErrArg)
	case len(body) > api.MaxLetter:
		unsent(t, p.n, from, to, body, api.ErrLong)
	default:
		send(t, p.n, from, to, string(body), p.last+1)
		p.put(from, to, string(body))
	}
}

// lose is a delivery or a loss.
func (p *play) lose(t *testing.T, r *rand.Rand) {
	number, place := p.some(r)
	if place < 0 {
		nowhere(t, p.n, number)
		return
	}
	if r.Intn(2) == 0 {
		deliver(t, p.n, p.all[place])
	} else {
		drop(t, p.n, number)
	}
	p.all = without(p.all, place)
	p.gone[number]++
}

func (p *play) double(t *testing.T, r *rand.Rand) {
	number, place := p.some(r)
	if place < 0 {
		nowhere(t, p.n, number)
		return
	}
	doubled(t, p.n, number, p.last+1)
	p.put(p.all[place].From, p.all[place].To, string(p.all[place].Body))
}

func (p *play) clear(t *testing.T) {
	if many := p.n.Clear(); many != len(p.all) {
		t.Fatalf("Clear: %d, not %d", many, len(p.all))
	}
	for _, l := range p.all {
		p.gone[l.Number]++
	}
	p.all = nil
}

// P7.1 to P7.5: any long row of sends, deliveries, losses and doublings, held against a plain model; now and then a copy goes on instead.
func TestAnyRowOfCalls(t *testing.T) {
	for seed := range int64(60) {
		r := rand.New(rand.NewSource(seed))
		p := newPlay(t, 1+int(seed)%api.MaxNodes)
		for range 300 {
			switch r.Intn(40) {
			case 0:
				p.clear(t)
			case 1:
				was := p.n
				p.n = was.Copy()
				was.Clear()
				was.Send(0, 1, []byte("elsewhere"))
			case 2, 3, 4, 5, 6, 7, 8, 9:
				p.double(t, r)
			case 10, 11, 12, 13, 14, 15, 16, 17, 18, 19, 20:
				p.lose(t, r)
			default:
				p.send(t, r)
			}
			stands(t, p.n, p.last, p.all...)
		}
		p.drain(t)
	}
}

// drain delivers what is left: each letter that was ever sent went once.
func (p *play) drain(t *testing.T) {
	for l := range p.n.All() {
		if !alike(l, p.sent[l.Number]) {
			t.Errorf("%v was not sent so", l)
		}
		deliver(t, p.n, l)
		p.gone[l.Number]++
	}
	stands(t, p.n, p.last)
	for number := range p.last {
		if p.gone[number+1] != 1 {
			t.Errorf("the letter %d went %d times", number+1, p.gone[number+1])
		}
	}
}

// P7.1 to P7.3, P7.5: a row about the bound, where a net is full and has room again.
func TestARowAboutTheBound(t *testing.T) {
	r := rand.New(rand.NewSource(1))
	n := full(t)
	var all []int64
	for number := range int64(api.MaxLetters) {
		all = append(all, number+1)
	}
	last := int64(api.MaxLetters)
	for range 4000 {
		place := r.Intn(len(all))
		number := all[place]
		switch r.Intn(4) {
		case 0:
			if l, e := n.Deliver(number); l.Number != number || e != api.OK {
				t.Fatalf("Deliver(%d): %v, %v", number, l, e)
			}
			all = slices.Delete(all, place, place+1)
			continue
		case 1:
			drop(t, n, number)
			all = slices.Delete(all, place, place+1)
			continue
		}
		twin, e := n.Double(number)
		if r.Intn(2) == 0 && e == api.ErrFull {
			twin, e = n.Send(0, 1, nil)
		}
		switch {
		case len(all) == api.MaxLetters && (twin != 0 || e != api.ErrFull):
			t.Fatalf("a full net takes one more: %d, %v", twin, e)
		case len(all) < api.MaxLetters && (twin != last+1 || e != api.OK):
			t.Fatalf("a net of %d letters takes none more: %d, %v", len(all), twin, e)
		case len(all) < api.MaxLetters:
			last++
			all = append(all, last)
		}
	}
	if !slices.Equal(n.To(1), all) || n.Len() != len(all) || n.Last() != last {
		t.Errorf("%d letters, the last one %d; not %d, %d", n.Len(), n.Last(), len(all), last)
	}
}
