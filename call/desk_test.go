package call_test

import (
	"testing"

	"millpond/api"
	"millpond/call"
)

// P19.2: a call of each kind is taken, and is pending till it is answered, or lost.
func TestAsk(t *testing.T) {
	for _, c := range four() {
		d := call.New()
		stands(t, d, 0)
		asks(t, d, c, 1)
		stands(t, d, 1, c)
		stands(t, d, 1, c) // looking takes nothing away
		answers(t, d, api.ErrFenced, api.Version{}, api.Answer{Number: 1, Call: c, Errno: api.ErrFenced})
		stands(t, d, 1)
		asks(t, d, c, 2)
		stands(t, d, 2, c)
		loses(t, d, 2)
		stands(t, d, 2)
	}
}

// P19.2: all calls that may be.
func TestAskOfAllCalls(t *testing.T) {
	d := call.New()
	for i, c := range some() {
		asks(t, d, c, int64(i+1))
		stands(t, d, int64(i+1), c)
		loses(t, d, int64(i+1))
	}
}

// P19.2: a page is one of the job's, not of the greatest job's.
func TestAskOfAJob(t *testing.T) {
	d := call.New()
	for pages := 1; pages < api.MaxPages; pages++ {
		for _, page := range []int{pages, pages + 1, 16, -1} {
			for _, c := range []api.Call{read(page), write(page, "x")} {
				if n, e := d.Ask(job(pages), c); n != 0 || e != api.ErrArg {
					t.Errorf("Ask(page %d of %d): %d, %v", page, pages, n, e)
				}
			}
		}
		if n, e := d.Ask(job(pages), read(pages-1)); n != int64(pages) || e != api.OK {
			t.Errorf("Ask(page %d of %d): %d, %v", pages-1, pages, n, e)
		}
		loses(t, d, int64(pages))
	}
}

// P19.2: ErrArg ahead of ErrBusy; what is refused changes nothing, and uses no number.
func TestErrorsOfAsk(t *testing.T) {
	wrong := []api.Call{{}, read(16), write(-1, ""), write(0, string(make([]byte, 97))), {Kind: 5}, {Kind: api.CallSync, Page: 1}}
	for _, pending := range four() {
		d := with(t, read(1), pending)
		for _, c := range wrong {
			if n, e := d.Ask(job(16), c); n != 0 || e != api.ErrArg {
				t.Errorf("Ask(%+v): %d, %v", c, n, e)
			}
			stands(t, d, 2, pending)
		}
		for _, c := range four() {
			for _, j := range wrongJobs() {
				if n, e := d.Ask(j, c); n != 0 || e != api.ErrArg {
					t.Errorf("Ask(%+v): %d, %v", j, n, e)
				}
			}
			if n, e := d.Ask(job(16), c); n != 0 || e != api.ErrBusy {
				t.Errorf("Ask(%+v): %d, %v", c, n, e)
			}
			stands(t, d, 2, pending)
		}
		loses(t, d, 2)
		for _, c := range wrong {
			if n, e := d.Ask(job(16), c); n != 0 || e != api.ErrArg {
				t.Errorf("Ask(%+v): %d, %v", c, n, e)
			}
			stands(t, d, 2)
		}
		asks(t, d, pending, 3)
	}
}

// P19.2: a nil desk, ahead of all that could be wrong.
func TestNilDesk(t *testing.T) {
	var d *call.Desk
	for _, c := range append(four(), api.Call{}, read(16)) {
		for _, j := range append(wrongJobs(), job(16)) {
			if n, e := d.Ask(j, c); n != 0 || e != api.ErrNil {
				t.Errorf("Ask: %d, %v", n, e)
			}
		}
	}
	noAnswer(t, d, api.OK, api.Version{}, api.ErrNil)
	noAnswer(t, d, -1, version(-1, "x"), api.ErrNil)
	noLoss(t, d, api.ErrNil)
	stands(t, d, 0)
	if d.Copy() != nil {
		t.Error("Copy of nil")
	}
}

// P19.2: with nothing pending: ErrNone, ahead of ErrArg.
func TestNothingPending(t *testing.T) {
	answered := with(t, read(3))
	answers(t, answered, api.OK, version(1, "x"), api.Answer{Number: 1, Call: read(3), V: version(1, "x")})
	lost := with(t, read(3))
	loses(t, lost, 1)
	for last, l := range [][]*call.Desk{{call.New(), {}}, {answered, lost, answered.Copy(), lost.Copy()}} {
		for _, d := range l {
			for _, e := range []api.Errno{api.OK, api.ErrFenced, -1, 13} {
				for _, v := range []api.Version{{}, version(1, "x"), version(-1, ""), version(0, "x")} {
					noAnswer(t, d, e, v, api.ErrNone)
				}
			}
			noLoss(t, d, api.ErrNone)
			stands(t, d, int64(last))
		}
	}
}

// P19.3: a zero desk is one that New made.
func TestZeroDesk(t *testing.T) {
	var d call.Desk
	stands(t, &d, 0)
	noAnswer(t, &d, api.OK, api.Version{}, api.ErrNone)
	noLoss(t, &d, api.ErrNone)
	if !call.Same(&d, call.New()) || !call.Same(call.New(), &d) || !call.Same(&d, d.Copy()) || call.Same(&d, nil) {
		t.Error("Same of a zero desk")
	}
	asks(t, &d, write(3, "ab"), 1)
	stands(t, &d, 1, write(3, "ab"))
	if !call.Same(&d, with(t, write(3, "ab"))) {
		t.Error("Same of a zero desk with a pending call")
	}
	answers(t, &d, api.OK, version(1, "ab"), api.Answer{Number: 1, Call: write(3, "ab"), V: version(1, "ab")})
	asks(t, &d, sync(), 2)
}

// P19.2, P19.4: numbers rise over answers, losses, and what is refused; each call is answered once, or lost.
func TestNumbersRise(t *testing.T) {
	d := call.New()
	calls := four()
	for n := int64(1); n <= 300; n++ {
		c := calls[n%4]
		asks(t, d, c, n)
		if n%5 == 0 {
			loses(t, d, n)
		} else {
			e := api.Errno(n % 3)
			answers(t, d, e, api.Version{}, api.Answer{Number: n, Call: c, Errno: e})
		}
		noAnswer(t, d, api.OK, api.Version{}, api.ErrNone)
		noLoss(t, d, api.ErrNone)
		d.Ask(job(16), read(16))
		stands(t, d, n)
	}
}

// P19.2: what is handed in stays the caller's.
func TestAskKeepsItsOwn(t *testing.T) {
	part, all := marked("ab")
	d := call.New()
	asks(t, d, api.Call{Kind: api.CallWrite, Page: 3, Body: part}, 1)
	unmarked(t, all, "ab")
	clear(all)
	stands(t, d, 1, write(3, "ab"))
	if _, c, _ := d.Pending(); string(append(c.Body, 'c')) != "abc" || string(all) != string(make([]byte, 13)) {
		t.Errorf("%q", all)
	}
	answers(t, d, api.OK, version(1, "ab"), api.Answer{Number: 1, Call: write(3, "ab"), V: version(1, "ab")})
}

// P19.2: what is told is the caller's.
func TestWhatADeskToldIsTheCallers(t *testing.T) {
	d := with(t, write(3, "ab"))
	_, one, _ := d.Pending()
	_, two, _ := d.Pending()
	clear(one.Body)
	_ = append(one.Body[:1], 99)
	if string(two.Body) != "ab" {
		t.Errorf("%q", two.Body)
	}
	stands(t, d, 1, write(3, "ab"))
	o := d.Copy()
	a, _ := d.Answer(api.OK, version(1, "ab"))
	clear(a.Call.Body)
	_ = append(a.Call.Body[:1], 99)
	if string(two.Body) != "ab" {
		t.Errorf("%q", two.Body)
	}
	stands(t, o, 1, write(3, "ab"))
	b, _ := o.Answer(api.OK, version(1, "ab"))
	if string(b.Call.Body) != "ab" || string(two.Body) != "ab" {
		t.Errorf("%q, %q", b.Call.Body, two.Body)
	}
	asks(t, d, write(4, "cd"), 2)
	if a.Number != 1 || a.Call.Page != 3 || string(b.Call.Body) != "ab" {
		t.Errorf("%+v, %+v", a, b)
	}
}
