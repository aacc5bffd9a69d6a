package call_test

import (
	"math/rand"
	"testing"

	"millpond/api"
	"millpond/call"
)

// plain is a desk by the chapter's words: the call that is pending, at most one, and how many were taken.
type plain struct {
	pending []api.Call
	last    int64
}

func (p plain) copied() plain { return plain{append([]api.Call{}, p.pending...), p.last} }

// ask is what a desk answers.
func (p *plain) ask(pages int, c api.Call) (int64, api.Errno) {
	if !mayByWords(c, pages) {
		return 0, api.ErrArg
	}
	if len(p.pending) > 0 {
		return 0, api.ErrBusy
	}
	p.pending = []api.Call{c}
	p.last++
	return p.last, api.OK
}

// answer is what a desk answers.
func (p *plain) answer(e api.Errno, v api.Version) (api.Answer, api.Errno) {
	if len(p.pending) == 0 {
		return api.Answer{}, api.ErrNone
	}
	c := p.pending[0]
	named := c.Kind == api.CallRead || c.Kind == api.CallWrite
	if e < 0 || e > 12 || v.PSN < 0 || v.PSN > 2147483647 || v != (api.Version{}) && (e != 0 || !named) {
		return api.Answer{}, api.ErrArg
	}
	p.pending = nil
	return api.Answer{Number: p.last, Call: c, Errno: e, V: v}, api.OK
}

// P19.2, P19.3, P19.4: desks and copies of them, held against the chapter's words call by call; each call that was taken is answered once, or lost, or pending.
func TestDesksAgainstTheWords(t *testing.T) {
	r := rand.New(rand.NewSource(193))
	calls := append(some(), four()...)
	for range 40 {
		desks, plains := []*call.Desk{call.New()}, []plain{{}}
		ended := map[int64]int{}
		for range 300 {
			i := r.Intn(len(desks))
			d, p := desks[i], &plains[i]
			switch r.Intn(8) {
			case 0, 1, 2:
				c, pages := other(r, pick(r, calls...)), 1+r.Intn(16)
				n, e := d.Ask(job(pages), c)
				if want, wrong := p.ask(pages, c); n != want || e != wrong {
					t.Fatalf("Ask(%d pages, %+v): %d, %v; not %d, %v", pages, c, n, e, want, wrong)
				}
			case 3, 4, 5:
				e := pick(r, append([]api.Errno{0, 0, 0, 0, 0, 0, -1, 13}, rightErrnos...)...)
				v := version(pick(r, append([]int64{0, 0, 0, -1, api.MaxStamp + 1}, rightPSNs...)...), pick(r, "", "", "ab"))
				want, wrong := p.answer(e, v)
				if wrong != api.OK {
					noAnswer(t, d, e, v, wrong)
					break
				}
				answers(t, d, e, v, want)
				if i == 0 {
					ended[want.Number]++
				}
			case 6:
				if len(p.pending) == 0 {
					noLoss(t, d, api.ErrNone)
					break
				}
				loses(t, d, p.last)
				p.pending = nil
				if i == 0 {
					ended[p.last]++
				}
			case 7:
				if len(desks) < 4 {
					desks, plains = append(desks, d.Copy()), append(plains, p.copied())
				}
			}
			if t.Failed() {
				return
			}
			standsAll(t, desks, plains)
		}
		endedOnce(t, ended, plains[0])
	}
}

// standsAll fails unless each desk is as its plain one, and any two are the same only if these are.
func standsAll(t *testing.T, desks []*call.Desk, plains []plain) {
	t.Helper()
	for i, d := range desks {
		p := plains[i]
		stands(t, d, p.last, p.pending...)
		for k, o := range desks {
			q := plains[k]
			want := p.last == q.last && len(p.pending) == len(q.pending) && (len(p.pending) == 0 || same(p.pending[0], q.pending[0]))
			if got := call.Same(d, o); got != want {
				t.Errorf("Same of the desks %d and %d: %v", i, k, got)
			}
		}
	}
}

// endedOnce fails unless each call that was taken was ended once, but the last one, if that is pending.
func endedOnce(t *testing.T, ended map[int64]int, p plain) {
	t.Helper()
	for n := int64(1); n <= p.last; n++ {
		want := 1
		if n == p.last && len(p.pending) > 0 {
			want = 0
		}
		if ended[n] != want {
			t.Errorf("the call %d was ended %d times", n, ended[n])
		}
	}
	if len(p.pending) == 0 && len(ended) != int(p.last) {
		t.Errorf("%d calls were ended, of %d", len(ended), p.last)
	}
}
