package member

import (
	"iter"

	"millpond/api"
	"millpond/device"
	"millpond/view"
)

// Ready goes over a view's members, rising, and whether each one is ready for it.
func Ready(d *device.Device, j api.Job, v api.View) iter.Seq2[int, bool] {
	return func(yield func(int, bool) bool) {
		if told(isThere(d), fits(d, j)) != api.OK {
			return
		}
		for node, epoch := range view.Members(v) {
			if !yield(node, isReady(d, j, node, epoch, v.Number)) {
				return
			}
		}
	}
}

// All tells whether all members are ready. A view without any has nobody who could open it.
func All(d *device.Device, j api.Job, v api.View) bool {
	some := false
	for _, ready := range Ready(d, j, v) {
		if !ready {
			return false
		}
		some = true
	}
	return some
}

// isReady asks for the member's own epoch too: what another incarnation was ready for says nothing of this one.
func isReady(d *device.Device, j api.Job, node int, epoch, number int64) bool {
	l, wrong := Lease(d, j, node)
	return wrong == api.OK && l.Epoch == epoch && l.Ready >= number
}
