package member

import (
	"millpond/api"
	"millpond/area"
	"millpond/device"
	"millpond/lease"
	"millpond/view"
)

func viewOn(d *device.Device, j api.Job) api.View {
	at, _ := area.View(j)
	return read(d, at, view.Get)
}

func leaseOf(d *device.Device, j api.Job, node int) api.Lease {
	at, _ := area.Lease(j, node)
	return read(d, at, lease.Get)
}

// read is what a sector says, by its form. Who reads one that is none goes no further.
func read[T any](d *device.Device, at int, form func(api.Sector) (T, api.Errno)) T {
	s, wrong := d.Read(at)
	orGiveUp(wrong)
	what, wrong := form(s)
	orGiveUp(wrong)
	return what
}

// orGiveUp leaves what is at work, at whatever depth, for answer to tell why.
func orGiveUp(wrong api.Errno) {
	if wrong != api.OK {
		panic(wrong)
	}
}

// answer is what a call does, unless a question ahead of it tells an error, or it gives up.
func answer[T any](list []question, do func() T) (what T, wrong api.Errno) {
	defer func() {
		if given := recover(); given != nil {
			wrong = given.(api.Errno) // nothing else is given up, and a fault of the program is not to hide here
		}
	}()
	if wrong = told(list...); wrong != api.OK {
		return what, wrong
	}
	return do(), api.OK
}
