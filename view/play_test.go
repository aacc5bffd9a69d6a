package view_test

import (
	"math/rand"
	"testing"

	"millpond/api"
	"millpond/view"
)

// plain is a view in the chapter's words: who is in, by a map, and all else beside it.
type plain struct {
	number  int64
	open    bool
	founder int
	in      map[int]int64
}

// view is the plain one as one of package api.
func (p plain) view() api.View {
	v := api.View{Number: p.number, Open: p.open, Founder: p.founder}
	for node, epoch := range p.in {
		v.Members[node] = api.Member{In: true, Epoch: epoch}
	}
	return v
}

func (p *plain) next(founder int) {
	p.number++
	p.open = false
	p.founder = founder
}

func (p *plain) join(node int, epoch int64) api.Errno {
	was, there := p.in[node]
	switch {
	case node < 0 || node >= 8 || epoch < 1 || epoch > 2147483647:
		return api.ErrArg
	case there && was >= epoch:
		return api.ErrThere
	case p.number == 1<<62:
		return api.ErrFull
	}
	p.in[node] = epoch
	p.next(node)
	return api.OK
}

func (p *plain) out(founder, node int) api.Errno {
	_, one := p.in[founder]
	_, other := p.in[node]
	switch {
	case node < 0 || node >= 8 || founder < 0 || founder >= 8 || founder == node:
		return api.ErrArg
	case !one || !other:
		return api.ErrNone
	case p.number == 1<<62:
		return api.ErrFull
	}
	delete(p.in, node)
	p.next(founder)
	return api.OK
}

func (p *plain) opened() api.Errno {
	switch {
	case p.number == 0:
		return api.ErrArg
	case p.open:
		return api.ErrThere
	}
	p.open = true
	return api.OK
}

// P9.1, P9.2, P9.4: rows of Join, Out and Opened, from the first view on and up to the greatest number, as the chapter's words say; what was handed in stays as it was, what is refused answers nothing, each view goes to its sector and back.
func TestRowsOfViews(t *testing.T) {
	r := rand.New(rand.NewSource(95))
	done := map[api.Errno]int{}
	for row := range 2000 {
		p := plain{open: true, in: map[int]int64{}}
		if row%4 == 0 {
			p = plain{number: api.MaxNumber - int64(r.Intn(20)), founder: 3, in: map[int]int64{3: 1}}
		}
		v := p.view()
		for range 40 {
			before := v
			var next api.View
			var e, want api.Errno
			switch r.Intn(8) {
			case 0, 1, 2:
				node, epoch := r.Intn(10)-1, r.Int63n(6)
				if r.Intn(10) == 0 {
					epoch += api.MaxEpoch - 3
				}
				next, e = view.Join(v, node, epoch)
				want = p.join(node, epoch)
			case 3, 4:
				next, e = view.Opened(v)
				want = p.opened()
			default:
				founder, node := r.Intn(10)-1, r.Intn(10)-1
				next, e = view.Out(v, founder, node)
				want = p.out(founder, node)
			}
			done[e]++
			if v != before || e != want || e != api.OK && next != (api.View{}) || e == api.OK && next != p.view() {
				t.Fatalf("behind %+v: %+v, %v; not %+v, %v", before, next, e, p, want)
			}
			if e == api.OK {
				v = next
				s, _ := view.Put(v)
				lies(t, v, s)
			}
		}
		if !view.May(v) {
			t.Fatalf("%+v may not be", v)
		}
	}
	for _, e := range []api.Errno{api.OK, api.ErrArg, api.ErrThere, api.ErrNone, api.ErrFull} {
		if done[e] < 100 {
			t.Errorf("%v was answered %d times", e, done[e])
		}
	}
}
