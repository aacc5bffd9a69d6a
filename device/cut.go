package device

import "millpond/api"

// cut is a crash to come; a zero one is none.
type cut struct {
	set  bool
	left int  // how many more things are done
	lost bool // was something asked that was not done?
}

// Cut lets so many more things be done, and no more.
func (d *Device) Cut(n int) api.Errno {
	switch {
	case d.none():
		return api.ErrNil
	case n < 0:
		return api.ErrArg
	case d.cut.set:
		return api.ErrBusy
	}
	d.cut = cut{set: true, left: n}
	return api.OK
}

// Whole tells whether all was done that was asked since Cut, and ends the cut.
func (d *Device) Whole() bool {
	if d.none() {
		return true
	}
	whole := !d.cut.lost
	d.cut = cut{}
	return whole
}

// Done is how many things were done in all.
func (d *Device) Done() int64 {
	if d.none() {
		return 0
	}
	return d.done
}

// do is the one place where a device is changed, so that each thing counts, and none is done behind a cut.
func (d *Device) do(thing func()) bool {
	if d.cut.set && d.cut.left == 0 {
		d.cut.lost = true
		return false
	}
	if d.cut.set {
		d.cut.left--
	}
	thing()
	d.done++
	return true
}
