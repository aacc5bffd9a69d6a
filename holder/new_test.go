package holder_test

import (
	"testing"

	"millpond/api"
	"millpond/area"
	"millpond/device"
	"millpond/holder"
)

// none fails unless New is refused so, with no holder beside it.
func none(t *testing.T, d *device.Device, j api.Job, node int, epoch int64, want api.Errno) {
	t.Helper()
	if h, e := holder.New(d, j, node, epoch); h != nil || e != want {
		t.Errorf("New(%+v, %d, %d): %v, %v, not %v", j, node, epoch, h, e, want)
	}
}

// wrongJobs are wrong in one thing each, and in all.
func wrongJobs() []api.Job {
	l := []api.Job{{}}
	for _, change := range []func(j *api.Job, n int){
		func(j *api.Job, n int) { j.Nodes = n }, func(j *api.Job, n int) { j.Pages = n }, func(j *api.Job, n int) { j.Frames = n },
		func(j *api.Job, n int) { j.Log = n }, func(j *api.Job, n int) { j.Patience = n },
	} {
		for _, n := range append([]int64{0, 101}, far...) {
			j := of(2, 2, 4)
			change(&j, int(n))
			l = append(l, j)
		}
	}
	for _, change := range []func(j *api.Job){
		func(j *api.Job) { j.Nodes = 1 }, func(j *api.Job) { j.Nodes = api.MaxNodes + 1 }, func(j *api.Job) { j.Pages = api.MaxPages + 1 },
		func(j *api.Job) { j.Frames = api.MaxFrames + 1 }, func(j *api.Job) { j.Log = 1 }, func(j *api.Job) { j.Log = api.MaxLog + 1 },
		func(j *api.Job) { j.Patience = 1 },
	} {
		j := of(2, 2, 4)
		change(&j)
		l = append(l, j)
	}
	return l
}

// great is a device that has room for each job.
func great(t *testing.T) *device.Device {
	t.Helper()
	d, e := device.New(api.MaxSectors, api.MaxNodes)
	fine(t, "a device", e)
	for node := range api.MaxNodes {
		d.Up(node)
	}
	return d
}

// corrupt puts a head that is none where a node's log has its.
func corrupt(t *testing.T, d *device.Device, j api.Job, node int) {
	t.Helper()
	at, e := area.Head(j, node)
	fine(t, "a head's place", e)
	lay(t, d, at, api.Sector{179})
}

// P17.1: no device, or a zero one, is ErrNil, whatever else is wrong.
func TestNewWithoutADevice(t *testing.T) {
	for _, d := range []*device.Device{nil, new(device.Device)} {
		for _, j := range append(wrongJobs(), of(2, 2, 4)) {
			none(t, d, j, 0, 1, api.ErrNil)
			none(t, d, j, -1, 0, api.ErrNil)
		}
	}
}

// P17.1: jobs that may not be are ErrArg, also where a head is none; those at the bounds may be, and have as many places as they say.
func TestNewOfJobs(t *testing.T) {
	d := great(t)
	for range 2 {
		for _, j := range wrongJobs() {
			none(t, d, j, 0, 1, api.ErrArg)
			none(t, d, j, 1, 1, api.ErrArg)
		}
		corrupt(t, d, of(2, 2, 4), 0)
	}
	for _, j := range []api.Job{
		{Nodes: 2, Pages: 1, Frames: 1, Log: 2, Patience: 2},
		{Nodes: api.MaxNodes, Pages: api.MaxPages, Frames: api.MaxFrames, Log: api.MaxLog, Patience: api.MaxPatience},
		{Nodes: 3, Pages: 12, Frames: 7, Log: 5, Patience: 9},
	} {
		h := opened(t, great(t), j, j.Nodes-1, 1)
		has(t, h)
		marked(t, h)
		logged(t, h, j, 1, 1, 0)
		for number := range j.Pages {
			want := api.OK
			if number >= j.Frames {
				want = api.ErrFull
			}
			if e := h.Grant(number, 1, api.Shared); e != want {
				t.Errorf("%+v: Grant(%d): %v", j, number, e)
			}
		}
	}
}

// P17.1: nodes of the job, and others; epochs from 1 to MaxEpoch, and others; ahead of a head that is none.
func TestNewOfNodesAndEpochs(t *testing.T) {
	j := api.Job{Nodes: 3, Pages: 2, Frames: 2, Log: 4, Patience: 2}
	d := great(t)
	for node := range 3 {
		for _, epoch := range []int64{1, 2, api.MaxEpoch - 1, api.MaxEpoch} {
			opened(t, d, j, node, epoch)
		}
	}
	for range 2 {
		for _, n := range append([]int64{3, 4, api.MaxNodes - 1, api.MaxNodes}, far...) {
			none(t, d, j, int(n), 1, api.ErrArg)
		}
		for _, epoch := range append([]int64{0, api.MaxEpoch + 1}, far...) {
			none(t, d, j, 0, epoch, api.ErrArg)
		}
		corrupt(t, d, j, 0)
	}
}

// P17.1: a device that is too small for the job is ErrArg; one that is as great as it, or greater, is not.
func TestNewOnSmallDevices(t *testing.T) {
	j := of(3, 2, 4)
	many, _ := area.Sectors(j)
	for _, sectors := range []int{1, 9, many - 1, many, many + 1, api.MaxSectors} {
		d, _ := device.New(sectors, 2)
		if sectors < many {
			none(t, d, j, 0, 1, api.ErrArg)
		} else {
			opened(t, d, j, 0, 1)
		}
	}
}

// P17.1: a log whose head is none is ErrCorrupt; another node's is nothing to this one.
func TestNewOfACorruptLog(t *testing.T) {
	j := of(2, 2, 4)
	d := made(t, j)
	corrupt(t, d, j, 1)
	none(t, d, j, 1, 1, api.ErrCorrupt)
	none(t, d, j, 1, api.MaxEpoch, api.ErrCorrupt)
	opened(t, d, j, 0, 1)
}

// P17.1: New has the log that the device says, no frames and no marks, whatever was ahead; and it writes nothing.
func TestNewGoesOnWithTheLog(t *testing.T) {
	j := of(2, 2, 4)
	d, h := began(t, j)
	grants(t, h, 0, 1, api.Exclusive)
	grants(t, h, 1, 1, api.Exclusive)
	writes(t, h, 0, 1)
	writes(t, h, 1, 1)
	backs(t, h, 0, 1)
	fine(t, "Cut", h.Cut())
	logged(t, h, j, 2, 3, 2)
	writes(t, h, 0, 2)
	yields(t, h, 1, 2, api.Frame{Page: 1, Mode: api.Exclusive, Op: 1, First: 2, V: version(1, 17), Dirty: true})
	writes(t, h, 0, 3) // in memory alone

	epoch, _ := d.Up(0)
	was := d.Copy()
	anew := opened(t, d, j, 0, epoch)
	untouched(t, "New", d, was)
	has(t, anew)
	marked(t, anew)
	logged(t, anew, j, 2, 4, 3)
	recorded(t, d, j, 0, 2, api.Mark{Page: 1, PSN: 1}, api.Mark{Page: 0, PSN: 2})
	fine(t, "Cut", anew.Cut())
	logged(t, anew, j, 4, 4, 3)

	other := opened(t, d, j, 1, 1)
	logged(t, other, j, 1, 1, 0)
}

// P17.1: the device is kept: what others write on it is there for the holder, and what the holder writes, for others. Two holders on it go on apart else.
func TestTheDeviceIsKept(t *testing.T) {
	j := of(2, 1, 4)
	d, h := began(t, j)
	other := opened(t, d, j, 1, 1)
	layPage(t, d, j, 0, version(7, 7))
	grants(t, h, 0, 1, api.Exclusive)
	reads(t, h, 0, version(7, 7))
	v := writes(t, h, 0, 8)
	has(t, other)
	logged(t, other, j, 1, 1, 0)
	backs(t, h, 0, 8)
	grants(t, other, 0, 1, api.Shared)
	reads(t, other, 0, v)
	has(t, other, api.Frame{Page: 0, Mode: api.Shared, Op: 1, V: v})
}
