package device

import "millpond/api"

// Epoch is the device's for a node.
func (d *Device) Epoch(node int) (int64, api.Errno) {
	switch {
	case d.none():
		return 0, api.ErrNil
	case !d.hasNode(node):
		return 0, api.ErrArg
	}
	return d.epochs[node], api.OK
}

// Up raises a node's epoch by one, and is that epoch.
func (d *Device) Up(node int) (int64, api.Errno) {
	epoch, wrong := d.Epoch(node)
	switch {
	case wrong != api.OK:
		return 0, wrong
	case epoch == api.MaxEpoch:
		return 0, api.ErrFull
	}
	d.raise(node, epoch+1)
	return epoch + 1, api.OK // behind a cut too
}

// Fence raises a node's epoch above one that is said, if it isn't yet.
func (d *Device) Fence(by int, epoch int64, who int, above int64) api.Errno {
	may := d.hasNode(who) && from(0, above, api.MaxEpoch-1)
	if wrong := d.refusal(by, epoch, may); wrong != api.OK {
		return wrong
	}
	if d.epochs[who] <= above {
		d.raise(who, above+1)
	}
	return api.OK
}

// Fenced tells whether a node's epoch is below the device's.
func (d *Device) Fenced(node int, epoch int64) bool {
	return d.hasNode(node) && epoch < d.epochs[node]
}

func (d *Device) hasNode(node int) bool { return node >= 0 && node < d.Nodes() }

func (d *Device) raise(node int, epoch int64) {
	d.do(func() { d.epochs[node] = epoch })
}

// refusal is why one who writes, swaps or fences is refused; may says whether the rest of what it asks may be, as that counts ahead of a fence.
func (d *Device) refusal(node int, epoch int64, may bool) api.Errno {
	switch {
	case d.none():
		return api.ErrNil
	case !may || !d.hasNode(node) || !from(0, epoch, d.epochs[node]):
		return api.ErrArg
	case d.Fenced(node, epoch):
		return api.ErrFenced
	}
	return api.OK
}
