package redo_test

import (
	"math"
	"slices"
	"testing"

	"millpond/api"
	"millpond/area"
	"millpond/device"
	"millpond/record"
	"millpond/redo"
)

// of is a job.
func of(nodes, pages, log int) api.Job {
	return api.Job{Nodes: nodes, Pages: pages, Frames: 1, Log: log, Patience: 2}
}

// made is a device of noughts, of just the sectors that a job needs, with these epochs.
func made(t *testing.T, j api.Job, epochs ...int64) *device.Device {
	t.Helper()
	many, _ := area.Sectors(j)
	d, e := device.Of(make([]byte, many*api.SectorSize), epochs...)
	if e != api.OK {
		t.Fatalf("a device of %+v, %v: %v", j, epochs, e)
	}
	return d
}

// opened is the log of a node.
func opened(t *testing.T, d *device.Device, j api.Job, node int, epoch int64) *redo.Log {
	t.Helper()
	l, e := redo.Open(d, j, node, epoch)
	if l == nil || e != api.OK {
		t.Fatalf("Open(%+v, %d, %d): %v, %v", j, node, epoch, l, e)
	}
	return l
}

// version is one whose bytes tell its PSN, in both halves.
func version(psn int64) api.Version {
	v := api.Version{PSN: psn}
	v.Body[0], v.Body[47], v.Body[48], v.Body[95] = byte(psn), byte(psn>>8), byte(psn+1), 'x'
	return v
}

// recordOf is the record of such a version.
func recordOf(node int, epoch, lsn int64, page int, psn int64) api.Record {
	return api.Record{Node: node, Epoch: epoch, LSN: lsn, Page: page, PSN: psn, Body: version(psn).Body}
}

// append1 fails unless the version of that PSN is appended, by that number.
func append1(t *testing.T, l *redo.Log, page int, psn, want int64) {
	t.Helper()
	if n, e := l.Append(page, version(psn)); n != want || e != api.OK {
		t.Fatalf("Append(%d, %d): %d, %v; not %d", page, psn, n, e, want)
	}
}

// refused fails unless nothing is appended, for that reason.
func refused(t *testing.T, l *redo.Log, page int, psn int64, want api.Errno) {
	t.Helper()
	if n, e := l.Append(page, api.Version{PSN: psn}); n != 0 || e != want {
		t.Errorf("Append(%d, %d): %d, %v; not %v", page, psn, n, e, want)
	}
}

// flush and cut fail unless they are answered so.
func flush(t *testing.T, l *redo.Log, want api.Errno) {
	t.Helper()
	if e := l.Flush(); e != want {
		t.Fatalf("Flush: %v, not %v", e, want)
	}
}

func cut(t *testing.T, l *redo.Log, start int64, want api.Errno) {
	t.Helper()
	if e := l.Cut(start); e != want {
		t.Fatalf("Cut(%d): %v, not %v", start, e, want)
	}
}

// stands fails unless the looks at a log tell that.
func stands(t *testing.T, l *redo.Log, start, next, flushed int64, room int) {
	t.Helper()
	if l.Start() != start || l.Next() != next || l.Flushed() != flushed || l.Room() != room {
		t.Fatalf("Start %d, Next %d, Flushed %d, Room %d; not %d, %d, %d, %d", l.Start(), l.Next(), l.Flushed(), l.Room(), start, next, flushed, room)
	}
}

// has fails unless a log has just these records.
func has(t *testing.T, l *redo.Log, want ...api.Record) {
	t.Helper()
	if got := slices.Collect(l.Records()); !slices.Equal(got, want) {
		t.Fatalf("Records: %+v, not %+v", got, want)
	}
}

// reads fails unless the device says that of a node's log, to Read and to Open.
func reads(t *testing.T, d *device.Device, j api.Job, node int, start int64, want ...api.Record) {
	t.Helper()
	first, l, e := redo.Read(d, j, node)
	if first != start || !slices.Equal(l, want) || e != api.OK {
		t.Fatalf("Read(%d): %d, %+v, %v; not %d, %+v", node, first, l, e, start, want)
	}
	m := opened(t, d, j, node, 1)
	next, room := start+int64(len(want)), j.Log-len(want)
	if next == api.MaxStamp {
		room = 0
	}
	stands(t, m, start, next, next-1, room)
	has(t, m, want...)
}

// shut fails unless Open and Read are refused, for that reason.
func shut(t *testing.T, name string, d *device.Device, j api.Job, node int, want api.Errno) {
	t.Helper()
	if start, l, e := redo.Read(d, j, node); start != 0 || len(l) != 0 || e != want {
		t.Errorf("%s: Read(%+v, %d): %d, %v, %v; not %v", name, j, node, start, l, e, want)
	}
	shutAt(t, name, d, j, node, 1, want)
}

func shutAt(t *testing.T, name string, d *device.Device, j api.Job, node int, epoch int64, want api.Errno) {
	t.Helper()
	if l, e := redo.Open(d, j, node, epoch); l != nil || e != want {
		t.Errorf("%s: Open(%+v, %d, %d): %v, %v; not %v", name, j, node, epoch, l, e, want)
	}
}

// lay puts sectors on a device from one on, whatever its epochs are.
func lay(t *testing.T, d *device.Device, first int, l ...api.Sector) {
	t.Helper()
	epoch, _ := d.Epoch(0)
	if e := d.Write(0, epoch, first, l...); e != api.OK {
		t.Fatalf("Write at %d: %v", first, e)
	}
}

// layHead puts a head there.
func layHead(t *testing.T, d *device.Device, j api.Job, node int, start, epoch int64) {
	t.Helper()
	at, _ := area.Head(j, node)
	s, e := record.PutHead(api.Head{Start: start, Epoch: epoch})
	if e != api.OK {
		t.Fatalf("PutHead(%d, %d): %v", start, epoch, e)
	}
	lay(t, d, at, s)
}

// layRecord puts a record at the place of a number in a node's log.
func layRecord(t *testing.T, d *device.Device, j api.Job, node int, lsn int64, r api.Record) {
	t.Helper()
	at, e := area.Record(j, node, lsn)
	l, wrong := record.Put(r)
	if e != api.OK || wrong != api.OK {
		t.Fatalf("Put(%+v) at %d: %v, %v", r, lsn, wrong, e)
	}
	lay(t, d, at, l[:]...)
}

// untouched fails unless a device is as another one was, and nothing was done on it.
func untouched(t *testing.T, name string, d, was *device.Device) {
	t.Helper()
	if !device.Same(d, was) || d.Done() != was.Done() {
		t.Errorf("%s: the device has changed", name)
	}
}

var far = []int{-1, math.MinInt, math.MinInt32, math.MaxInt, math.MaxInt32, 1 << 32}

// P6.1 to P6.4: the chapter's examples.
func TestExamples(t *testing.T) {
	j := of(2, 1, 4)
	d := made(t, j, 0, 0)
	if n, e := d.Up(0); n != 1 || e != api.OK {
		t.Fatal(n, e)
	}
	l := opened(t, d, j, 0, 1)
	stands(t, l, 1, 1, 0, 4)
	for n := range int64(3) {
		append1(t, l, 0, 1, n+1)
	}
	stands(t, l, 1, 4, 0, 1)
	flush(t, l, api.OK)
	stands(t, l, 1, 4, 3, 1)
	append1(t, l, 0, 1, 4)
	refused(t, l, 0, 1, api.ErrFull)
	cut(t, l, 4, api.OK)
	stands(t, l, 4, 5, 3, 3)
	append1(t, l, 0, 1, 5)
	flush(t, l, api.OK)
	stands(t, opened(t, d, j, 0, 1), 4, 6, 5, 2)
	if e := d.Fence(1, 0, 0, 2); e != api.OK {
		t.Fatal(e)
	}
	append1(t, l, 0, 1, 6)
	flush(t, l, api.ErrFenced)
	stands(t, l, 4, 7, 5, 1)
	reads(t, d, j, 0, 4, recordOf(0, 1, 4, 0, 1), recordOf(0, 1, 5, 0, 1))
}

// P6.1: no device, ahead of all else that is wrong; a zero one is as none.
func TestNoDevice(t *testing.T) {
	for _, d := range []*device.Device{nil, {}} {
		shut(t, "no device", d, of(2, 1, 4), 0, api.ErrNil)
		shut(t, "no device, no job", d, api.Job{}, 0, api.ErrNil)
		shut(t, "no device, no such node", d, of(2, 1, 4), 2, api.ErrNil)
		shutAt(t, "no device, no such epoch", d, of(2, 1, 4), 0, 0, api.ErrNil)
	}
}

// P6.2 to P6.4: no log, and a zero one, whatever is asked.
func TestNoLog(t *testing.T) {
	for _, l := range []*redo.Log{nil, {}} {
		for _, psn := range []int64{0, 1, -1} {
			refused(t, l, 0, psn, api.ErrNil)
			refused(t, l, -1, psn, api.ErrNil)
		}
		flush(t, l, api.ErrNil)
		for _, start := range []int64{0, 1, -1} {
			cut(t, l, start, api.ErrNil)
		}
		stands(t, l, 0, 0, 0, 0)
		has(t, l)
		has(t, l)
	}
}

// P6.1: jobs at their bounds, and just beyond.
func TestJobs(t *testing.T) {
	most := api.Job{Nodes: api.MaxNodes, Pages: api.MaxPages, Frames: api.MaxFrames, Log: api.MaxLog, Patience: api.MaxPatience}
	least := api.Job{Nodes: 2, Pages: 1, Frames: 1, Log: 2, Patience: 2}
	for _, j := range []api.Job{most, least} {
		d := made(t, j, 1, 1)
		reads(t, d, j, 0, 1)
		reads(t, d, j, j.Nodes-1, 1)
		was := d.Copy()
		for _, change := range []func(j *api.Job) (field *int, least, most int){
			func(j *api.Job) (*int, int, int) { return &j.Nodes, 2, api.MaxNodes },
			func(j *api.Job) (*int, int, int) { return &j.Pages, 1, api.MaxPages },
			func(j *api.Job) (*int, int, int) { return &j.Frames, 1, api.MaxFrames },
			func(j *api.Job) (*int, int, int) { return &j.Log, 2, api.MaxLog },
			func(j *api.Job) (*int, int, int) { return &j.Patience, 2, api.MaxPatience },
		} {
			wrong := j
			field, least, most := change(&wrong)
			for _, n := range append([]int{least - 1, most + 1}, far...) {
				*field = n
				shut(t, "no such job", d, wrong, 0, api.ErrArg)
			}
		}
		shut(t, "no job", d, api.Job{}, 0, api.ErrArg)
		untouched(t, "no such job", d, was)
	}
}

// P6.1: nodes of the job, and none else, though the device and the leases have more.
func TestNodes(t *testing.T) {
	for _, nodes := range []int{2, 3, api.MaxNodes} {
		j := of(nodes, 2, 3)
		d, _ := device.New(api.MaxSectors, api.MaxNodes)
		for node := range nodes {
			reads(t, d, j, node, 1)
		}
		for _, node := range append([]int{nodes, nodes + 1, api.MaxNodes}, far...) {
			shut(t, "no such node", d, j, node, api.ErrArg)
		}
	}
}

// P6.1: epochs at their bounds, whatever the device's is; that is asked by what is written alone.
func TestEpochs(t *testing.T) {
	j := of(2, 1, 2)
	for _, now := range []int64{0, 1, 2, api.MaxEpoch} {
		d := made(t, j, now, 0)
		was := d.Copy()
		for _, epoch := range []int64{1, 2, api.MaxEpoch - 1, api.MaxEpoch} {
			stands(t, opened(t, d, j, 0, epoch), 1, 1, 0, 2)
		}
		for _, epoch := range []int64{0, -1, api.MaxEpoch + 1, math.MaxInt64, math.MinInt64, 1<<32 + 1} {
			shutAt(t, "no such epoch", d, j, 0, epoch, api.ErrArg)
		}
		untouched(t, "Open", d, was)
	}
}

// P6.1: a device of as many sectors as the job needs, of more, of one fewer, of one.
func TestSizes(t *testing.T) {
	for _, j := range []api.Job{of(2, 1, 2), of(3, 2, 5), of(api.MaxNodes, api.MaxPages, api.MaxLog)} {
		many, _ := area.Sectors(j)
		for _, size := range []int{many, many + 1, api.MaxSectors} {
			d, _ := device.New(size, j.Nodes)
			reads(t, d, j, 0, 1)
			reads(t, d, j, j.Nodes-1, 1)
		}
		for _, size := range []int{many - 1, many - 2, 9, 1} {
			d, _ := device.New(size, j.Nodes)
			shut(t, "too small", d, j, 0, api.ErrArg)
			shut(t, "too small", d, j, j.Nodes-1, api.ErrArg)
		}
	}
}

// P6.1: what may not be is told ahead of a head that is none.
func TestWrongArgumentsAheadOfWrongHeads(t *testing.T) {
	j := of(2, 1, 2)
	d := made(t, j, 1, 1)
	at, _ := area.Head(j, 0)
	lay(t, d, at, api.Sector{1})
	shut(t, "no head", d, j, 0, api.ErrCorrupt)
	shutAt(t, "no head", d, j, 0, api.MaxEpoch, api.ErrCorrupt)
	shutAt(t, "no head, no epoch", d, j, 0, 0, api.ErrArg)
	shutAt(t, "no head, no epoch", d, j, 0, api.MaxEpoch+1, api.ErrArg)
	shut(t, "no head, no job", d, of(2, 1, 1), 0, api.ErrArg)
	shut(t, "no head, no node", d, j, 2, api.ErrArg)
	many, _ := area.Sectors(j)
	small, _ := device.Of(d.Bytes()[:(many-1)*api.SectorSize], 1, 1)
	shut(t, "no head, too small", small, j, 0, api.ErrArg)
	reads(t, d, j, 1, 1) // the other node's head is one
}
