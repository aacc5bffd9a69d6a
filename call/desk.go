package call

import (
	"slices"

	"millpond/api"
)

// Desk is where one call at most is pending. A zero one is as New makes it.
type Desk struct {
	pending
	last int64
}

// pending is a call that was taken, and is neither answered nor lost; a zero one, which has no kind, is none. Copies of a desk share the call's bytes, which nobody else gets, and nobody changes.
type pending struct{ call api.Call }

func (p pending) is() bool { return p.call.Kind != 0 }

// told is the call, in memory of its own.
func (p pending) told() api.Call { return own(p.call) }

// end takes the call away.
func (p *pending) end() { *p = pending{} }

func own(c api.Call) api.Call {
	c.Body = slices.Clone(c.Body)
	return c
}

// New is a desk that has not taken any call.
func New() *Desk { return &Desk{} }

// Ask takes a call, which is pending then: its number.
func (d *Desk) Ask(j api.Job, c api.Call) (int64, api.Errno) {
	switch {
	case d == nil:
		return 0, api.ErrNil
	case !May(j, c):
		return 0, api.ErrArg
	case d.is():
		return 0, api.ErrBusy
	}
	d.call = own(c)
	d.last++
	return d.last, api.OK
}

// Pending is the call that is, and its number.
func (d *Desk) Pending() (int64, api.Call, bool) {
	if d == nil || !d.is() {
		return 0, api.Call{}, false
	}
	return d.last, d.told(), true
}

// Answer ends the pending call by its answer.
func (d *Desk) Answer(e api.Errno, v api.Version) (api.Answer, api.Errno) {
	if wrong := d.none(); wrong != api.OK {
		return api.Answer{}, wrong
	}
	if !mayBeAnswered(d.call, e, v) {
		return api.Answer{}, api.ErrArg
	}
	a := api.Answer{Number: d.last, Call: d.told(), Errno: e, V: v}
	d.end()
	return a, api.OK
}

// Lose ends the pending call without an answer: its number.
func (d *Desk) Lose() (int64, api.Errno) {
	if wrong := d.none(); wrong != api.OK {
		return 0, wrong
	}
	d.end()
	return d.last, api.OK
}

// none is why no pending call can be ended, if none can.
func (d *Desk) none() api.Errno {
	switch {
	case d == nil:
		return api.ErrNil
	case !d.is():
		return api.ErrNone
	}
	return api.OK
}

// mayBeAnswered tells whether a call may be answered so: with a version, if it is OK and of a page.
func mayBeAnswered(c api.Call, e api.Errno, v api.Version) bool {
	switch {
	case e < api.OK || e > api.ErrCorrupt:
		return false
	case v == api.Version{}:
		return true
	case v.PSN < 0 || v.PSN > api.MaxStamp:
		return false
	}
	return e == api.OK && of(c.Kind).page
}

// Last is the number of the last call that was taken.
func (d *Desk) Last() int64 {
	if d == nil {
		return 0
	}
	return d.last
}

// Copy is another one that goes on apart.
func (d *Desk) Copy() *Desk {
	if d == nil {
		return nil
	}
	c := *d
	return &c
}

// Same tells whether both have the same pending call, and took as many.
func Same(a, b *Desk) bool {
	if a == nil || b == nil {
		return a == b
	}
	return a.last == b.last && SameCall(a.call, b.call)
}
