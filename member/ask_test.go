package member_test

import (
	"testing"

	"millpond/api"
	"millpond/area"
	"millpond/device"
	"millpond/member"
)

// call is one of those that tell an error: it tells that, and whether all else is zero.
type call struct {
	name        string
	node, epoch bool // does it name them?
	do          func(d *device.Device, j api.Job, node int, epoch int64) (bool, api.Errno)
}

func zeros(v api.View, did bool, e api.Errno) (bool, api.Errno) {
	return v == (api.View{}) && !did, e
}

// calls are all that tell an error; Out is asked by the node, of its neighbour.
func calls() []call {
	return []call{
		{"View", false, false, func(d *device.Device, j api.Job, _ int, _ int64) (bool, api.Errno) {
			v, e := member.View(d, j)
			return v == api.View{}, e
		}},
		{"Lease", true, false, func(d *device.Device, j api.Job, node int, _ int64) (bool, api.Errno) {
			l, e := member.Lease(d, j, node)
			return l == api.Lease{}, e
		}},
		{"Say", true, true, func(d *device.Device, j api.Job, node int, epoch int64) (bool, api.Errno) {
			return true, member.Say(d, j, node, api.Lease{Epoch: epoch, Beat: 9, Ready: 9})
		}},
		{"Join", true, true, func(d *device.Device, j api.Job, node int, epoch int64) (bool, api.Errno) {
			return zeros(member.Join(d, j, node, epoch))
		}},
		{"Out", true, true, func(d *device.Device, j api.Job, node int, epoch int64) (bool, api.Errno) {
			return zeros(member.Out(d, j, node, epoch, neighbour(node)))
		}},
		{"Open", true, true, func(d *device.Device, j api.Job, node int, epoch int64) (bool, api.Errno) {
			return zeros(member.Open(d, j, node, epoch))
		}},
	}
}

// neighbour is another node, which each job has.
func neighbour(node int) int {
	if node == 0 {
		return 1
	}
	return 0
}

// Which calls: all of them; those that name a node; that name an epoch; that go by the view on the device.
func each(call) bool         { return true }
func nameNodes(c call) bool  { return c.node }
func nameEpochs(c call) bool { return c.epoch }
func lookAtView(c call) bool { return c.name != "Lease" && c.name != "Say" }

// tell fails unless those calls tell that error, with zeros beside it, and leave the device as it was.
func tell(t *testing.T, which func(call) bool, wrong api.Errno, d *device.Device, j api.Job, node int, epoch int64) {
	t.Helper()
	was := d.Copy()
	for _, c := range calls() {
		if !which(c) {
			continue
		}
		if zero, e := c.do(d, j, node, epoch); !zero || e != wrong {
			t.Errorf("%s(%+v, %d, %d): %v, not %v; zeros beside it: %v", c.name, j, node, epoch, e, wrong, zero)
		}
	}
	if was != nil {
		untouched(t, "calls that are refused", d, was)
	}
}

// goOn fails if one of the calls tells ErrNil or ErrArg; each of them has a device of its own.
func goOn(t *testing.T, d *device.Device, j api.Job, node int, epoch int64) {
	t.Helper()
	for _, c := range calls() {
		if _, e := c.do(d.Copy(), j, node, epoch); e == api.ErrArg || e == api.ErrNil {
			t.Errorf("%s(%+v, %d, %d): %v", c.name, j, node, epoch, e)
		}
	}
}

// silent fails if Ready tells anything.
func silent(t *testing.T, d *device.Device, j api.Job, v api.View) {
	t.Helper()
	for node, ready := range member.Ready(d, j, v) {
		t.Errorf("Ready(%+v, %+v): %d, %v", j, v, node, ready)
	}
	if member.All(d, j, v) {
		t.Errorf("All(%+v, %+v)", j, v)
	}
}

// wrongJobs are wrong in one thing each, and in all.
func wrongJobs() []api.Job {
	var l []api.Job
	for _, n := range []int{0, -1, 1 << 40, -1 << 40} {
		for _, change := range []func(*api.Job){
			func(j *api.Job) { j.Nodes = n }, func(j *api.Job) { j.Pages = n }, func(j *api.Job) { j.Frames = n },
			func(j *api.Job) { j.Log = n }, func(j *api.Job) { j.Patience = n },
		} {
			j := of(3)
			change(&j)
			l = append(l, j)
		}
	}
	return append(l, api.Job{}, of(1), of(api.MaxNodes+1),
		api.Job{Nodes: 3, Pages: api.MaxPages + 1, Frames: 1, Log: 2, Patience: 2},
		api.Job{Nodes: 3, Pages: 1, Frames: api.MaxFrames + 1, Log: 2, Patience: 2},
		api.Job{Nodes: 3, Pages: 1, Frames: 1, Log: 1, Patience: 2},
		api.Job{Nodes: 3, Pages: 1, Frames: 1, Log: api.MaxLog + 1, Patience: 2},
		api.Job{Nodes: 3, Pages: 1, Frames: 1, Log: 2, Patience: 1},
		api.Job{Nodes: 3, Pages: 1, Frames: 1, Log: 2, Patience: api.MaxPatience + 1})
}

// P11.1 to P11.5: no device, or a zero one, is ErrNil, whatever else is wrong; Ready tells nothing.
func TestNoDevice(t *testing.T) {
	for _, d := range []*device.Device{nil, new(device.Device)} {
		for _, j := range append(wrongJobs(), of(2), of(8)) {
			for _, node := range []int{0, 1, 7, 8, -1} {
				for _, epoch := range []int64{0, 1, -1, api.MaxEpoch + 1} {
					tell(t, each, api.ErrNil, d, j, node, epoch)
				}
			}
			silent(t, d, j, viewOf(1, false, 0, 1))
			silent(t, d, j, first)
			if _, _, e := member.Out(d, j, 1, 1, 1); e != api.ErrNil {
				t.Error("Out of oneself:", e)
			}
			if e := member.Say(d, j, 0, api.Lease{Beat: -1}); e != api.ErrNil {
				t.Error("Say:", e)
			}
		}
	}
}

// P11.1 to P11.5: jobs that may not be.
func TestWrongJobs(t *testing.T) {
	d := sized(t, api.MaxSectors, 2, 2, 2, 2, 2, 2, 2, 2)
	for range 2 {
		for _, j := range wrongJobs() {
			for _, epoch := range []int64{2, 1} {
				tell(t, each, api.ErrArg, d, j, 0, epoch)
				tell(t, each, api.ErrArg, d, j, 1, epoch)
			}
			silent(t, d, j, viewOf(1, false, 0, 1))
		}
		lay(t, d, 0, api.Sector{7})
	}
	greatest := api.Job{Nodes: api.MaxNodes, Pages: api.MaxPages, Frames: api.MaxFrames, Log: api.MaxLog, Patience: api.MaxPatience}
	goOn(t, d, greatest, 7, 2)
	goOn(t, d, of(2), 1, 2)
}

// P11.1 to P11.5: a device of one sector, or node, fewer than the job is none for it, whoever asks and whatever lies there; one of just as many, or more, is.
func TestSmallDevices(t *testing.T) {
	for _, j := range []api.Job{of(2), of(3), of(8), {Nodes: 4, Pages: 16, Frames: 2, Log: 64, Patience: 9}} {
		many, _ := area.Sectors(j)
		epochs := []int64{2, 2, 2, 2, 2, 2, 2, 2}
		v := viewOf(1, false, 0, 2)
		for _, d := range []*device.Device{sized(t, many-1, epochs...), sized(t, many, epochs[:j.Nodes-1]...), sized(t, many-1, epochs[:j.Nodes-1]...), sized(t, 1, epochs...), sized(t, 9, epochs...), sized(t, many, 2)} {
			for range 2 {
				for node := range j.Nodes {
					tell(t, each, api.ErrArg, d, j, node, 2)
					tell(t, each, api.ErrArg, d, j, node, 1)
				}
				silent(t, d, j, v)
				lay(t, d, 0, api.Sector{7})
			}
		}
		for _, d := range []*device.Device{sized(t, many, epochs[:j.Nodes]...), sized(t, many+1, epochs[:j.Nodes]...), sized(t, many, epochs...), sized(t, api.MaxSectors, epochs...)} {
			for node := range j.Nodes {
				goOn(t, d, j, node, 2)
			}
			layLease(t, d, 0, api.Lease{Epoch: 2, Ready: 1})
			if !member.All(d, j, v) {
				t.Errorf("All of a device of %d sectors, %d nodes", d.Size(), d.Nodes())
			}
		}
	}
}

// P11.1 to P11.5: a node that the device has, but the job hasn't, is none.
func TestNodesThatAreNone(t *testing.T) {
	for nodes := 2; nodes <= api.MaxNodes; nodes++ {
		j := of(nodes)
		d := sized(t, 400, 2, 2, 2, 2, 2, 2, 2, 2)
		layView(t, d, viewOf(5, false, 0, 2, 2, 2, 2, 2, 2, 2, 2))
		for range 2 {
			wrong := []int{nodes, nodes + 1, api.MaxNodes - 1 + nodes, api.MaxNodes, api.MaxNodes + 1}
			for _, n := range far {
				wrong = append(wrong, int(n))
			}
			for _, node := range wrong {
				for _, epoch := range []int64{1, 2, 3} {
					tell(t, nameNodes, api.ErrArg, d, j, node, epoch)
					refused(t, d, api.ErrArg, "Out of one who is none", func() (api.View, bool, api.Errno) {
						return member.Out(d, j, 0, epoch, node)
					})
				}
			}
			goOn(t, d, j, nodes-1, 2)
			lay(t, d, 0, api.Sector{7})
		}
	}
}

// P11.1 to P11.5: epochs at their bounds: of 0 and below, and of those that the device has not yet, none may be; elder ones are fenced; the device's own is not.
func TestEpochs(t *testing.T) {
	j := of(2)
	for _, last := range []int64{0, 1, 2, 3, 300, api.MaxEpoch - 1, api.MaxEpoch} {
		for node := range 2 {
			d := made(t, j, last, last)
			for range 2 {
				for _, epoch := range append([]int64{0, last + 1, last + 2, api.MaxEpoch + 1, last + 1<<32}, far...) {
					tell(t, nameEpochs, api.ErrArg, d, j, node, epoch)
				}
				for _, epoch := range []int64{1, 2, last / 2, last - 2, last - 1} {
					if epoch >= 1 && epoch < last {
						tell(t, nameEpochs, api.ErrFenced, d, j, node, epoch)
					}
				}
				lay(t, d, 0, api.Sector{7})
			}
			if last > 0 {
				goOn(t, d, j, node, last)
			}
		}
	}
}

// P11.2 to P11.5, P0.9: a sector that is no view's is told behind a fence, ahead of all that the view could say; nothing changes.
func TestNoView(t *testing.T) {
	j := of(3)
	good := viewOf(4, false, 1, 2, 2, 2)
	for at := range api.SectorSize {
		d := made(t, j, 2, 2, 2)
		layView(t, d, good)
		s, _ := d.Read(0)
		s[at] ^= 0x80
		lay(t, d, 0, s)
		if _, e := member.View(d, j); e == api.OK {
			continue // another view's
		}
		for node := range 3 {
			tell(t, lookAtView, api.ErrCorrupt, d, j, node, 2)
			tell(t, nameEpochs, api.ErrFenced, d, j, node, 1)
			tell(t, nameEpochs, api.ErrArg, d, j, node, 3)
			refused(t, d, api.ErrArg, "Out of oneself", func() (api.View, bool, api.Errno) { return member.Out(d, j, node, 2, node) })
		}
	}
	d := made(t, j, 2, 2, 2)
	lay(t, d, 0, api.Sector{193})
	tell(t, lookAtView, api.ErrCorrupt, d, j, 0, 2)
	layView(t, d, good)
	goOn(t, d, j, 0, 2)
}

// P11.1, P0.9: a sector that is no lease's is told of its node alone.
func TestNoLease(t *testing.T) {
	j := of(4)
	for node := range 4 {
		d := made(t, j, 1, 1, 1, 1)
		for _, s := range []api.Sector{{7}, {209}, {0, 1}, {209, 0x80}, {63: 1}} {
			lay(t, d, 1+node, s)
			was := d.Copy()
			for other := range 4 {
				want := api.OK
				if other == node {
					want = api.ErrCorrupt
				}
				if l, e := member.Lease(d, j, other); l != (api.Lease{}) || e != want {
					t.Errorf("Lease(%d), where that of %d is none: %+v, %v", other, node, l, e)
				}
			}
			if _, e := member.Lease(d, j, 4); e != api.ErrArg {
				t.Error("Lease(4):", e)
			}
			shows(t, d, j, first)
			untouched(t, "Lease", d, was)
		}
	}
}

// P11.3: node and who are one: told ahead of a fence, and of a view that is none.
func TestOutOfOneself(t *testing.T) {
	j := of(3)
	for node := range 3 {
		d := made(t, j, 2, 2, 2)
		layView(t, d, viewOf(4, false, 1, 2, 2, 2))
		for range 2 {
			for _, epoch := range []int64{1, 2, 3} {
				refused(t, d, api.ErrArg, "Out of oneself", func() (api.View, bool, api.Errno) { return member.Out(d, j, node, epoch, node) })
			}
			lay(t, d, 0, api.Sector{7})
		}
	}
}
