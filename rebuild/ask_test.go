package rebuild_test

import (
	"slices"
	"testing"

	"millpond/api"
	"millpond/area"
	"millpond/device"
	"millpond/rebuild"
)

// asked is what a call may be asked for, beside a device and a job.
type asked struct {
	node, page int
	epoch      int64
}

// call tells its error, and whether all else is zero.
type call struct {
	name              string
	node, page, epoch bool // does it name them?
	logs              bool // does it look at all logs?
	do                func(d *device.Device, j api.Job, a asked) (bool, api.Errno)
}

func calls() []call {
	return []call{
		{"Records", true, false, false, false, func(d *device.Device, j api.Job, a asked) (bool, api.Errno) {
			l, e := rebuild.Records(d, j, a.node)
			return len(l) == 0, e
		}},
		{"Best", false, false, false, true, func(d *device.Device, j api.Job, a asked) (bool, api.Errno) {
			l, e := rebuild.Best(d, j)
			return len(l) == 0, e
		}},
		{"Durable", false, false, false, true, func(d *device.Device, j api.Job, a asked) (bool, api.Errno) {
			l, e := rebuild.Durable(d, j)
			return len(l) == 0, e
		}},
		{"Rebuild", true, false, true, true, func(d *device.Device, j api.Job, a asked) (bool, api.Errno) {
			n, e := rebuild.Rebuild(d, j, a.node, a.epoch)
			return n == 0, e
		}},
		{"Place", false, true, false, false, func(d *device.Device, j api.Job, a asked) (bool, api.Errno) {
			v, whole, e := rebuild.Place(d, j, a.page)
			return v == api.Version{} && !whole, e
		}},
	}
}

// Which calls: all of them; those that name a node, a page, an epoch; those that look at all logs.
func each(call) bool         { return true }
func nameNodes(c call) bool  { return c.node }
func namePages(c call) bool  { return c.page }
func nameEpochs(c call) bool { return c.epoch }
func lookAtLogs(c call) bool { return c.logs }

// tell fails unless those calls tell that error, with zeros beside it, and leave the device as it was.
func tell(t *testing.T, which func(call) bool, wrong api.Errno, d *device.Device, j api.Job, a asked) {
	t.Helper()
	was := d.Copy()
	for _, c := range calls() {
		if !which(c) {
			continue
		}
		if zero, e := c.do(d, j, a); !zero || e != wrong {
			t.Errorf("%s(%+v, %+v): %v, not %v; zeros beside it: %v", c.name, j, a, e, wrong, zero)
		}
	}
	if was != nil {
		untouched(t, "calls that are refused", d, was)
	}
}

// goOn fails if one of the calls tells an error; each of them has a device of its own.
func goOn(t *testing.T, d *device.Device, j api.Job, a asked) {
	t.Helper()
	for _, c := range calls() {
		if _, e := c.do(d.Copy(), j, a); e != api.OK {
			t.Errorf("%s(%+v, %+v): %v", c.name, j, a, e)
		}
	}
}

// silent fails if Missing tells anything.
func silent(t *testing.T, d *device.Device, j api.Job) {
	t.Helper()
	all := rebuild.Missing(d, j)
	for range 2 {
		tells(t, all)
	}
}

// spoil puts a head that is none where a node's log has its.
func spoil(t *testing.T, d *device.Device, j api.Job, node int) {
	t.Helper()
	lay(t, d, headAt(t, j, node), api.Sector{179})
}

// wrongJobs are wrong in one thing each, and in all.
func wrongJobs() []api.Job {
	var l []api.Job
	for _, change := range []func(j *api.Job, n int){
		func(j *api.Job, n int) { j.Nodes = n }, func(j *api.Job, n int) { j.Pages = n }, func(j *api.Job, n int) { j.Frames = n },
		func(j *api.Job, n int) { j.Log = n }, func(j *api.Job, n int) { j.Patience = n },
	} {
		for _, n := range append([]int64{0}, far...) {
			j := of(3, 2, 4)
			change(&j, int(n))
			l = append(l, j)
		}
	}
	for _, change := range []func(j *api.Job){
		func(j *api.Job) { j.Nodes = 1 }, func(j *api.Job) { j.Nodes = api.MaxNodes + 1 }, func(j *api.Job) { j.Pages = api.MaxPages + 1 },
		func(j *api.Job) { j.Frames = api.MaxFrames + 1 }, func(j *api.Job) { j.Log = 1 }, func(j *api.Job) { j.Log = api.MaxLog + 1 },
		func(j *api.Job) { j.Patience = 1 }, func(j *api.Job) { j.Patience = api.MaxPatience + 1 },
	} {
		j := of(3, 2, 4)
		change(&j)
		l = append(l, j)
	}
	return append(l, api.Job{})
}

// P12.1 to P12.3: no device, or a zero one, is ErrNil, whatever else is wrong; Missing tells nothing.
func TestNoDevice(t *testing.T) {
	for _, d := range []*device.Device{nil, new(device.Device)} {
		for _, j := range append(wrongJobs(), of(2, 1, 2), of(8, 16, 64)) {
			for _, n := range append([]int64{0, 1, 15, 16}, far...) {
				tell(t, each, api.ErrNil, d, j, asked{node: int(n), page: int(n), epoch: n})
				tell(t, each, api.ErrNil, d, j, asked{epoch: n})
			}
			silent(t, d, j)
		}
	}
}

// P12.1 to P12.3: jobs that may not be, ahead of heads that are none and of who is fenced.
func TestWrongJobs(t *testing.T) {
	d := sized(t, api.MaxSectors, 2, 2, 2, 2, 2, 2, 2, 2)
	j := of(3, 2, 4)
	layRecord(t, d, j, recordOf(0, 1, 1, 0, 1))
	for range 2 {
		for _, j := range wrongJobs() {
			for _, epoch := range []int64{2, 1, 0, 3} {
				tell(t, each, api.ErrArg, d, j, asked{epoch: epoch})
				tell(t, each, api.ErrArg, d, j, asked{node: 1, page: 1, epoch: epoch})
			}
			silent(t, d, j)
		}
		spoil(t, d, j, 0)
	}
	greatest := api.Job{Nodes: api.MaxNodes, Pages: api.MaxPages, Frames: api.MaxFrames, Log: api.MaxLog, Patience: api.MaxPatience}
	for _, j := range []api.Job{greatest, of(2, 1, 2)} {
		many, _ := area.Sectors(j)
		goOn(t, sized(t, many, 2, 2, 2, 2, 2, 2, 2, 2), j, asked{node: j.Nodes - 1, page: j.Pages - 1, epoch: 2})
	}
}

// P12.1 to P12.3: a device of one sector, or node, fewer than the job is none of it; one of just as many, or more, is.
func TestSmallDevices(t *testing.T) {
	epochs := []int64{2, 2, 2, 2, 2, 2, 2, 2}
	for _, j := range []api.Job{of(2, 1, 2), of(3, 5, 4), of(8, 2, 3), {Nodes: 4, Pages: 16, Frames: 2, Log: 64, Patience: 9}} {
		many, _ := area.Sectors(j)
		for _, d := range []*device.Device{
			sized(t, many-1, epochs...), sized(t, many-1, epochs[:j.Nodes]...), sized(t, many, epochs[:j.Nodes-1]...), sized(t, many-1, epochs[:j.Nodes-1]...),
			sized(t, 1, epochs...), sized(t, 9, epochs...), sized(t, many, 2), sized(t, api.MaxSectors, epochs[:j.Nodes-1]...),
		} {
			for _, epoch := range []int64{2, 1, 3} {
				for node := range j.Nodes {
					tell(t, each, api.ErrArg, d, j, asked{node: node, epoch: epoch})
				}
				silent(t, d, j)
			}
			if d.Size() > headAt(t, j, 0) {
				spoil(t, d, j, 0)
				tell(t, each, api.ErrArg, d, j, asked{epoch: 1})
				silent(t, d, j)
			}
		}
		for _, d := range []*device.Device{sized(t, many, epochs[:j.Nodes]...), sized(t, many+1, epochs[:j.Nodes]...), sized(t, many, epochs...), sized(t, api.MaxSectors, epochs...)} {
			goOn(t, d, j, asked{node: j.Nodes - 1, page: j.Pages - 1, epoch: 2})
			tear(t, d, j, j.Pages-1)
			tells(t, rebuild.Missing(d, j), nought(j.Pages-1))
			rebuilt(t, d, j, j.Nodes-1, 2, 1)
		}
	}
}

// P12.1, P12.3: nodes that are none of the job's, of those that the device has too, ahead of heads that are none and of who is fenced.
func TestNodesThatAreNone(t *testing.T) {
	for nodes := 2; nodes <= api.MaxNodes; nodes++ {
		j := of(nodes, 1, 2)
		many, _ := area.Sectors(j)
		d := sized(t, many+100, 2, 2, 2, 2, 2, 2, 2, 2)
		for node := range nodes {
			goOn(t, d, j, asked{node: node, epoch: 2})
		}
		for range 2 {
			for _, n := range append([]int64{int64(nodes), int64(nodes) + 1, api.MaxNodes, api.MaxNodes + 1, 15, 16}, far...) {
				for _, epoch := range []int64{0, 1, 2, 3} {
					tell(t, nameNodes, api.ErrArg, d, j, asked{node: int(n), epoch: epoch})
				}
			}
			spoil(t, d, j, nodes-1)
		}
	}
}

// P12.1: pages that are none of the job's.
func TestPagesThatAreNone(t *testing.T) {
	for pages := 1; pages <= api.MaxPages; pages++ {
		j := of(2, pages, 2)
		many, _ := area.Sectors(j)
		d := sized(t, many+100, 2, 2)
		for p := range pages {
			goOn(t, d, j, asked{page: p, epoch: 2})
		}
		for range 2 {
			for _, n := range append([]int64{int64(pages), int64(pages) + 1, api.MaxPages, api.MaxPages + 1, 255, 256}, far...) {
				tell(t, namePages, api.ErrArg, d, j, asked{page: int(n)})
			}
			spoil(t, d, j, 1)
		}
	}
}

// P12.3: epochs at their bounds: below 0, or above the device's, none may be; elder ones are fenced; the device's own is not. All that also where nothing is missing, and for each node by its own.
func TestEpochs(t *testing.T) {
	j := of(3, 2, 2)
	for _, last := range []int64{0, 1, 2, 3, 300, api.MaxEpoch - 1, api.MaxEpoch} {
		for node := range 3 {
			epochs := []int64{5, 5, 5}
			epochs[node] = last
			d := made(t, j, epochs...)
			for _, lost := range []int{0, 1, 2} {
				for _, epoch := range append([]int64{last + 1, last + 2, api.MaxEpoch + 1, last + 1<<32}, far...) {
					tell(t, nameEpochs, api.ErrArg, d, j, asked{node: node, epoch: epoch})
				}
				for _, epoch := range []int64{0, 1, 2, last / 2, last - 2, last - 1} {
					if epoch >= 0 && epoch < last {
						tell(t, nameEpochs, api.ErrFenced, d, j, asked{node: node, epoch: epoch})
					}
				}
				rebuilt(t, d.Copy(), j, node, last, lost)
				if lost < 2 {
					tear(t, d, j, lost)
				}
			}
		}
	}
}

// P12.3: who is fenced writes nothing, though it could a moment ago; who fenced it can.
func TestWhoIsFencedRebuildsNothing(t *testing.T) {
	j := of(2, 2, 2)
	d := made(t, j, 1, 1)
	layRecord(t, d, j, recordOf(1, 1, 1, 1, 4))
	rebuilt(t, d.Copy(), j, 1, 1, 1)
	if e := d.Fence(0, 1, 1, 1); e != api.OK {
		t.Fatal(e)
	}
	tell(t, nameEpochs, api.ErrFenced, d, j, asked{node: 1, epoch: 1})
	tell(t, nameEpochs, api.ErrFenced, d, j, asked{node: 1, epoch: 0})
	tell(t, nameEpochs, api.ErrArg, d, j, asked{node: 1, epoch: 3})
	rebuilt(t, d, j, 0, 1, 1)
	tell(t, nameEpochs, api.ErrFenced, d, j, asked{node: 1, epoch: 1})
	rebuilt(t, d, j, 1, 2, 0)
}

// P12.1 to P12.3: a head that is none, of each node, ends all that looks at all logs, ahead of who is fenced and behind what may not be; the other logs, and the pages' places, are told all the same.
func TestHeadsThatAreNone(t *testing.T) {
	j := of(4, 3, 2)
	for bad := range j.Nodes {
		for _, s := range []api.Sector{{179}, {0, 0, 0, 0, 0, 0, 0, 0, 1}, {179, 0, 0, 0, 0, 0, 0, 0, 1}, {179, 0, 0, 0, 1}, {177}, {180, 0, 0, 0, 1, 0, 0, 0, 1}, {179, 0, 0, 0, 1, 0x80, 0, 0, 0}, {63: 1}} {
			d := made(t, j, 2, 2, 2, 2)
			for node := range j.Nodes {
				layRecord(t, d, j, recordOf(node, 1, 1, 2, 5), recordOf(node, 1, 2, 0, 7))
			}
			layPage(t, d, j, 1, version(3, 'p'))
			lay(t, d, headAt(t, j, bad), s)
			for node := range j.Nodes {
				tell(t, lookAtLogs, api.ErrCorrupt, d, j, asked{node: node, epoch: 2})
				tell(t, lookAtLogs, api.ErrCorrupt, d, j, asked{node: node, epoch: 1})
				tell(t, nameEpochs, api.ErrArg, d, j, asked{node: node, epoch: 3})
				tell(t, nameEpochs, api.ErrArg, d, j, asked{node: node, epoch: -1})
				if node != bad {
					records(t, d, j, node, recordOf(node, 1, 1, 2, 5), recordOf(node, 1, 2, 0, 7))
				}
			}
			tell(t, func(c call) bool { return c.name == "Records" }, api.ErrCorrupt, d, j, asked{node: bad})
			silent(t, d, j)
			place(t, d, j, 1, version(3, 'p'), true)
			place(t, d, j, 0, api.Version{}, true)
		}
	}
}

// P0.9: each byte of a head counts: another one there makes it another head, or none.
func TestEachByteOfAHead(t *testing.T) {
	j := of(2, 1, 2)
	for i := range api.SectorSize {
		d := made(t, j, 1, 1)
		layHead(t, d, j, 0, 3, 1)
		layRecord(t, d, j, recordOf(0, 1, 3, 0, 4))
		best(t, d, j, logged(recordOf(0, 1, 3, 0, 4)))
		s, _ := d.Read(headAt(t, j, 0))
		s[i] ^= 0x80
		lay(t, d, headAt(t, j, 0), s)
		switch {
		case slices.Contains([]int{2, 3, 4}, i): // another epoch
			best(t, d, j, logged(recordOf(0, 1, 3, 0, 4)))
		case slices.Contains([]int{6, 7, 8}, i): // another Start
			best(t, d, j, in(0, api.Version{}))
		default:
			tell(t, lookAtLogs, api.ErrCorrupt, d, j, asked{epoch: 1})
		}
	}
}

// A node that a device has, and the job hasn't, has no log: what lies there is none of the job's.
func TestNodesOfTheDeviceAlone(t *testing.T) {
	three, two := of(3, 1, 2), of(2, 1, 2)
	d := made(t, three, 1, 1, 1)
	spoil(t, d, three, 2)
	tell(t, lookAtLogs, api.ErrCorrupt, d, three, asked{epoch: 1})
	layPage(t, d, two, 0, version(1, 'p')) // it lies where the third log began
	best(t, d, two, in(0, version(1, 'p')))
	tell(t, nameEpochs, api.ErrArg, d, two, asked{node: 2, epoch: 1})
}
