package member

import (
	"millpond/api"
	"millpond/area"
	"millpond/device"
)

// question is asked ahead of what a call does: OK, or why the call is refused.
type question func() api.Errno

// told is the error of the first question that has one. What stands behind it is not asked, so that a question may lean on those ahead of it.
func told(list ...question) api.Errno {
	for _, ask := range list {
		if wrong := ask(); wrong != api.OK {
			return wrong
		}
	}
	return api.OK
}

// unless is the question whether something holds; that error, if it doesn't.
func unless(wrong api.Errno, holds func() bool) question {
	return func() api.Errno {
		if holds() {
			return api.OK
		}
		return wrong
	}
}

func isThere(d *device.Device) question {
	return unless(api.ErrNil, func() bool { return d.Size() > 0 }) // a zero device is as nil
}

// fits asks for a job that may be, and that has room on the device.
func fits(d *device.Device, j api.Job) question {
	return unless(api.ErrArg, func() bool {
		sectors, wrong := area.Sectors(j)
		return wrong == api.OK && d.Size() >= sectors && d.Nodes() >= j.Nodes
	})
}

func isNode(j api.Job, node int) question {
	return unless(api.ErrArg, func() bool { return node >= 0 && node < j.Nodes })
}

// isEpoch asks for one that the device has for the node, or had. By the epoch 0 nobody came up.
func isEpoch(d *device.Device, node int, epoch int64) question {
	return unless(api.ErrArg, func() bool {
		last, _ := d.Epoch(node)
		return epoch >= 1 && epoch <= last
	})
}

func isNotFenced(d *device.Device, node int, epoch int64) question {
	return unless(api.ErrFenced, func() bool { return !d.Fenced(node, epoch) })
}
