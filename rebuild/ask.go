package rebuild

import (
	"millpond/api"
	"millpond/area"
	"millpond/device"
)

// refusal is why a call is refused ahead of a look at any sector; may says whether the rest of what it asks may be, as ErrNil is told ahead of that.
func refusal(d *device.Device, j api.Job, may bool) api.Errno {
	many, wrong := area.Sectors(j)
	switch {
	case d.Size() == 0: // a nil one, or a zero one
		return api.ErrNil
	case wrong != api.OK || !may || d.Size() < many || d.Nodes() < j.Nodes:
		return api.ErrArg
	}
	return api.OK
}

func isNode(j api.Job, node int) bool { return node >= 0 && node < j.Nodes }

// isEpoch asks for one that the device has for the node, or had: whether it is fenced is another question.
func isEpoch(d *device.Device, node int, epoch int64) bool {
	last, wrong := d.Epoch(node)
	return wrong == api.OK && epoch >= 0 && epoch <= last
}
