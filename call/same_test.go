package call_test

import (
	"testing"

	"millpond/api"
	"millpond/call"
)

// P19.3: calls that differ in one field, and that differ in none.
func TestSameCall(t *testing.T) {
	l := []api.Call{
		{}, read(0), read(1), read(15), write(0, ""), write(0, "ab"), write(0, "ac"), write(0, "a"), write(0, "abc"), write(0, "ab\x00"), write(0, "\x00"),
		write(3, "ab"), sync(), checkpoint(), {Kind: 5}, {Kind: -1}, {Page: -1}, {Kind: 3, Page: 1}, {Kind: 3, Body: []byte("ab")}, {Body: []byte("ab")},
		{Kind: 1<<32 + 1}, {Kind: 1, Page: 1 << 32}, write(0, string(make([]byte, 97))), write(0, string(make([]byte, 98))),
	}
	for i, a := range l {
		for k, b := range l {
			b.Body = append([]byte{}, b.Body...) // the bytes are compared, not where they lie
			if got := call.SameCall(a, b); got != (i == k) {
				t.Errorf("SameCall(%+v, %+v): %v", a, b, got)
			}
		}
	}
}

// P19.3: no bytes and nil are one.
func TestSameCallOfNoBytes(t *testing.T) {
	for _, c := range []api.Call{{}, read(3), {Kind: api.CallWrite}, sync()} {
		none := c
		none.Body = []byte{}
		if !call.SameCall(c, none) || !call.SameCall(none, c) || !call.SameCall(none, none) {
			t.Errorf("SameCall(%+v) beside no bytes", c)
		}
		if !call.SameAnswer(api.Answer{Call: c}, api.Answer{Call: none}) {
			t.Errorf("SameAnswer(%+v) beside no bytes", c)
		}
	}
}

// P19.3: answers that differ in one field, and that differ in none.
func TestSameAnswer(t *testing.T) {
	right := func() api.Answer { return api.Answer{Number: 5, Call: write(3, "ab"), V: version(7, "ab")} }
	l := []api.Answer{right()}
	for _, change := range []func(*api.Answer){
		func(a *api.Answer) { a.Number = 6 },
		func(a *api.Answer) { a.Number = -5 },
		func(a *api.Answer) { a.Number = 1<<32 + 5 },
		func(a *api.Answer) { a.Call.Kind = api.CallRead },
		func(a *api.Answer) { a.Call.Page = 4 },
		func(a *api.Answer) { a.Call.Body = []byte("ac") },
		func(a *api.Answer) { a.Call.Body = nil },
		func(a *api.Answer) { a.Call.Body = []byte("ab\x00") },
		func(a *api.Answer) { a.Errno = api.ErrFenced },
		func(a *api.Answer) { a.Errno = -1 },
		func(a *api.Answer) { a.V.PSN = 8 },
		func(a *api.Answer) { a.V.Body[0] = 'x' },
		func(a *api.Answer) { a.V.Body[95] = 'x' },
		func(a *api.Answer) { a.V = api.Version{} },
		func(a *api.Answer) { *a = api.Answer{} },
	} {
		a := right()
		change(&a)
		l = append(l, a)
	}
	for i, a := range l {
		for k, b := range l {
			b.Call.Body = append([]byte{}, b.Call.Body...)
			if got := call.SameAnswer(a, b); got != (i == k) {
				t.Errorf("SameAnswer(%+v, %+v): %v", a, b, got)
			}
		}
	}
}

// P19.3: what is handed in stays as it was.
func TestSameChangesNothing(t *testing.T) {
	part, all := marked("ab")
	c := api.Call{Kind: api.CallWrite, Page: 3, Body: part}
	call.SameCall(c, write(3, "cd"))
	call.SameAnswer(api.Answer{Call: c}, api.Answer{Call: c})
	unmarked(t, all, "ab")
}

// P19.3: desks that differ in the pending call, in whether there is one, and in Last.
func TestSame(t *testing.T) {
	answered := func(l ...api.Call) *call.Desk {
		d := with(t, l...)
		if _, e := d.Answer(api.OK, api.Version{}); e != api.OK {
			t.Error(e)
		}
		return d
	}
	all := func() []*call.Desk {
		return []*call.Desk{
			nil, call.New(), with(t, read(0)), with(t, read(1)), with(t, write(0, "")), with(t, write(0, "ab")), with(t, write(0, "ac")), with(t, write(0, "ab\x00")),
			with(t, write(1, "ab")), with(t, sync()), with(t, checkpoint()), with(t, read(1), read(0)), with(t, read(0), read(0), read(0)),
			answered(read(0)), answered(read(0), read(0)), answered(sync(), sync(), sync()),
		}
	}
	for i, a := range all() {
		for k, b := range all() {
			if got := call.Same(a, b); got != (i == k) {
				t.Errorf("Same of the desks %d and %d: %v", i, k, got)
			}
		}
	}
}

// P19.3: what is ahead of the pending call does not count, but how many there were.
func TestSameOfUnlikePasts(t *testing.T) {
	a := with(t, read(1), sync(), write(3, "ab"))
	b := with(t, checkpoint(), write(3, "cd"))
	loses(t, b, 2)
	asks(t, b, write(3, "ab"), 3)
	if !call.Same(a, b) {
		t.Error("Same of desks with unlike pasts")
	}
	loses(t, a, 3)
	if call.Same(a, b) {
		t.Error("Same of a desk that lost its call")
	}
	answers(t, b, api.ErrFenced, api.Version{}, api.Answer{Number: 3, Call: write(3, "ab"), Errno: api.ErrFenced})
	if !call.Same(a, b) {
		t.Error("Same of a loss and an answer")
	}
	b.Ask(job(16), read(16))
	if !call.Same(a, b) {
		t.Error("Same behind what was refused")
	}
}

// P19.3: no bytes and nil are one, in a pending call, too.
func TestSameOfNoBytes(t *testing.T) {
	if !call.Same(with(t, api.Call{Kind: api.CallWrite, Body: []byte{}}), with(t, api.Call{Kind: api.CallWrite})) {
		t.Error("Same of no bytes and nil")
	}
}

// P19.3: a copy and its elder go on apart.
func TestCopy(t *testing.T) {
	for _, c := range four() {
		d := with(t, read(1), c)
		o := d.Copy()
		if o == d || !call.Same(o, d) {
			t.Error("Copy")
		}
		stands(t, o, 2, c)
		loses(t, d, 2)
		asks(t, d, write(5, "cd"), 3)
		stands(t, o, 2, c)
		if call.Same(o, d) {
			t.Error("Same of a copy, and its elder that went on")
		}
		answers(t, o, api.ErrFenced, api.Version{}, api.Answer{Number: 2, Call: c, Errno: api.ErrFenced})
		stands(t, d, 3, write(5, "cd"))
		asks(t, o, write(6, "ef"), 3)
		stands(t, d, 3, write(5, "cd"))
		stands(t, o, 3, write(6, "ef"))
	}
	d := call.New()
	o := d.Copy()
	asks(t, o, sync(), 1)
	stands(t, d, 0)
	stands(t, o, 1, sync())
}
