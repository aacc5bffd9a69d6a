package holder_test

import (
	"math"
	"slices"
	"testing"

	"millpond/api"
	"millpond/area"
	"millpond/device"
	"millpond/holder"
	"millpond/page"
	"millpond/rebuild"
	"millpond/record"
)

// far are numbers far from all bounds, and such as wrap round to small ones.
var far = []int64{-1, -2, math.MinInt64, math.MaxInt64, math.MinInt32, 1 << 33, 1<<32 + 1, -1 << 32, 1<<62 + 1, math.MinInt64 + 1}

// of is a job of two nodes.
func of(pages, frames, log int) api.Job {
	return api.Job{Nodes: 2, Pages: pages, Frames: frames, Log: log, Patience: 2}
}

// made is a device just as great as the job, of noughts, on which each node has come up once.
func made(t *testing.T, j api.Job) *device.Device {
	t.Helper()
	many, e := area.Sectors(j)
	if e != api.OK {
		t.Fatalf("%+v: %v", j, e)
	}
	d, _ := device.New(many, j.Nodes)
	for node := range j.Nodes {
		d.Up(node)
	}
	return d
}

func opened(t *testing.T, d *device.Device, j api.Job, node int, epoch int64) *holder.Holder {
	t.Helper()
	h, e := holder.New(d, j, node, epoch)
	if h == nil || e != api.OK {
		t.Fatalf("New(%+v, %d, %d): %v", j, node, epoch, e)
	}
	return h
}

// began is a new device, and the node 0's holder on it.
func began(t *testing.T, j api.Job) (*device.Device, *holder.Holder) {
	t.Helper()
	d := made(t, j)
	return d, opened(t, d, j, 0, 1)
}

// body is one whose bytes tell a number, in both halves.
func body(n int) api.Body {
	return api.Body{0: byte(n), 1: 'b', 47: byte(n >> 8), 48: byte(n), 95: 'e'}
}

func version(psn int64, n int) api.Version { return api.Version{PSN: psn, Body: body(n)} }

// sight is all that a holder lets see.
type sight struct {
	frames               []api.Frame
	marks                []api.Mark
	room                 int
	start, next, flushed int64
}

func see(h *holder.Holder) sight {
	return sight{slices.Collect(h.Frames()), slices.Collect(h.Marks()), h.Room(), h.Start(), h.Next(), h.Flushed()}
}

// stays fails if a holder is seen to be another one than it was.
func stays(t *testing.T, what string, h *holder.Holder, was sight) {
	t.Helper()
	is := see(h)
	if !slices.Equal(is.frames, was.frames) || !slices.Equal(is.marks, was.marks) ||
		is.room != was.room || is.start != was.start || is.next != was.next || is.flushed != was.flushed {
		t.Fatalf("%s: the holder is %+v, not %+v", what, is, was)
	}
}

// untouched fails if anything was done to a device.
func untouched(t *testing.T, what string, d, was *device.Device) {
	t.Helper()
	if !device.Same(d, was) || d.Done() != was.Done() {
		t.Fatalf("%s: the device is another one, by %d things", what, d.Done()-was.Done())
	}
}

// has fails unless a holder has just these frames, which rise, in Frames and in Look.
func has(t *testing.T, h *holder.Holder, want ...api.Frame) {
	t.Helper()
	if got := slices.Collect(h.Frames()); !slices.Equal(got, want) {
		t.Fatalf("Frames: %+v, not %+v", got, want)
	}
	for number := range api.MaxPages {
		var w api.Frame
		at := slices.IndexFunc(want, func(f api.Frame) bool { return f.Page == number })
		if at >= 0 {
			w = want[at]
		}
		if f, is := h.Look(number); f != w || is != (at >= 0) {
			t.Fatalf("Look(%d): %+v, %v", number, f, is)
		}
	}
}

// marked fails unless a holder has just these marks, in their order.
func marked(t *testing.T, h *holder.Holder, want ...api.Mark) {
	t.Helper()
	if got := slices.Collect(h.Marks()); !slices.Equal(got, want) {
		t.Fatalf("Marks: %v, not %v", got, want)
	}
}

// logged fails unless a log is so: its room hangs on the job's Log alone, as no number here is near the greatest one.
func logged(t *testing.T, h *holder.Holder, j api.Job, start, next, flushed int64) {
	t.Helper()
	room := j.Log - int(next-start)
	if h.Start() != start || h.Next() != next || h.Flushed() != flushed || h.Room() != room {
		t.Fatalf("Start %d, Next %d, Flushed %d, Room %d; not %d, %d, %d, %d", h.Start(), h.Next(), h.Flushed(), h.Room(), start, next, flushed, room)
	}
}

func grants(t *testing.T, h *holder.Holder, page int, op int64, mode api.Mode) {
	t.Helper()
	if e := h.Grant(page, op, mode); e != api.OK {
		t.Fatalf("Grant(%d, %d, %d): %v", page, op, mode, e)
	}
}

func takes(t *testing.T, h *holder.Holder, page int, op int64, mode api.Mode, v api.Version, dirty bool) {
	t.Helper()
	if e := h.Take(page, op, mode, v, dirty); e != api.OK {
		t.Fatalf("Take(%d, %d, %d, %d, %v): %v", page, op, mode, v.PSN, dirty, e)
	}
}

// writes fails unless the version that is written has that PSN; its body is that of page and PSN.
func writes(t *testing.T, h *holder.Holder, page int, psn int64) api.Version {
	t.Helper()
	want := version(psn, 16*int(psn)+page)
	if v, e := h.Write(page, want.Body); v != want || e != api.OK {
		t.Fatalf("Write(%d): %+v, %v; not %+v", page, v, e, want)
	}
	return want
}

func reads(t *testing.T, h *holder.Holder, page int, want api.Version) {
	t.Helper()
	if v, e := h.Read(page); v != want || e != api.OK {
		t.Fatalf("Read(%d): %+v, %v; not %+v", page, v, e, want)
	}
}

func frees(t *testing.T, h *holder.Holder, page int, want ...api.Left) {
	t.Helper()
	if l, e := h.Free(page); !slices.Equal(l, want) || e != api.OK {
		t.Fatalf("Free(%d): %+v, %v; not %+v", page, l, e, want)
	}
}

func shares(t *testing.T, h *holder.Holder, page int, op int64, want api.Frame) {
	t.Helper()
	if f, e := h.Share(page, op); f != want || e != api.OK {
		t.Fatalf("Share(%d, %d): %+v, %v; not %+v", page, op, f, e, want)
	}
}

func yields(t *testing.T, h *holder.Holder, page int, op int64, want api.Frame) {
	t.Helper()
	if f, e := h.Yield(page, op); f != want || e != api.OK {
		t.Fatalf("Yield(%d, %d): %+v, %v; not %+v", page, op, f, e, want)
	}
}

func drops(t *testing.T, h *holder.Holder, page int, op int64, want bool) {
	t.Helper()
	if gone, e := h.Drop(page, op); gone != want || e != api.OK {
		t.Fatalf("Drop(%d, %d): %v, %v; not %v", page, op, gone, e, want)
	}
}

func backs(t *testing.T, h *holder.Holder, page int, want int64) {
	t.Helper()
	if psn, e := h.Back(page); psn != want || e != api.OK {
		t.Fatalf("Back(%d): %d, %v; not %d", page, psn, e, want)
	}
}

func cleans(t *testing.T, h *holder.Holder, want ...api.Left) {
	t.Helper()
	if l, e := h.Clean(); !slices.Equal(l, want) || e != api.OK {
		t.Fatalf("Clean: %+v, %v; not %+v", l, e, want)
	}
}

func discards(t *testing.T, h *holder.Holder, page int, psn int64, want int) {
	t.Helper()
	if n, e := h.Discard(page, psn); n != want || e != api.OK {
		t.Fatalf("Discard(%d, %d): %d, %v; not %d", page, psn, n, e, want)
	}
}

// fine fails unless a call that answers nothing else is OK.
func fine(t *testing.T, what string, e api.Errno) {
	t.Helper()
	if e != api.OK {
		t.Fatalf("%s: %v", what, e)
	}
}

// lay puts sectors on a device, by whoever the node 1 is by then.
func lay(t *testing.T, d *device.Device, first int, l ...api.Sector) {
	t.Helper()
	epoch, _ := d.Epoch(1)
	if e := d.Write(1, epoch, first, l...); e != api.OK {
		t.Fatalf("the sector %d: %v", first, e)
	}
}

func layHead(t *testing.T, d *device.Device, j api.Job, node int, start, epoch int64) {
	t.Helper()
	at, _ := area.Head(j, node)
	s, e := record.PutHead(api.Head{Start: start, Epoch: epoch})
	if e != api.OK {
		t.Fatalf("the head %d, %d: %v", start, epoch, e)
	}
	lay(t, d, at, s)
}

// layPage puts a version into a page's place; tear puts its first sector there alone.
func layPage(t *testing.T, d *device.Device, j api.Job, number int, v api.Version) {
	t.Helper()
	at, _ := area.Page(j, number)
	l, e := page.Put(number, v)
	if e != api.OK {
		t.Fatalf("%d, %+v: %v", number, v, e)
	}
	lay(t, d, at, l[:]...)
}

func tear(t *testing.T, d *device.Device, j api.Job, number int, v api.Version) {
	t.Helper()
	at, _ := area.Page(j, number)
	l, e := page.Put(number, v)
	if e != api.OK {
		t.Fatalf("%d, %+v: %v", number, v, e)
	}
	lay(t, d, at, l[0])
}

// stands fails unless a page's place has that version, whole.
func stands(t *testing.T, d *device.Device, j api.Job, page int, want api.Version) {
	t.Helper()
	if v, whole, e := rebuild.Place(d, j, page); v != want || !whole || e != api.OK {
		t.Fatalf("the place of the page %d has %+v, %v, %v; not %+v", page, v, whole, e, want)
	}
}

// recorded fails unless the device says that a node's log has just records of these pages, the first one's LSN being from, with the versions that writes makes.
func recorded(t *testing.T, d *device.Device, j api.Job, node int, from int64, want ...api.Mark) {
	t.Helper()
	l, e := rebuild.Records(d, j, node)
	if e != api.OK || len(l) != len(want) {
		t.Fatalf("the log has %d records, %v; not %d", len(l), e, len(want))
	}
	for i, r := range l {
		w := want[i]
		if r.Page != w.Page || r.PSN != w.PSN || r.LSN != from+int64(i) || r.Node != node || r.Body != version(w.PSN, 16*int(w.PSN)+w.Page).Body {
			t.Fatalf("the record %d is %+v, not %+v", i, r, w)
		}
	}
}

// durable is what the device alone says of each page.
func durable(t *testing.T, d *device.Device, j api.Job) []api.Version {
	t.Helper()
	l, e := rebuild.Durable(d, j)
	if e != api.OK || len(l) != j.Pages {
		t.Fatalf("Durable(%+v): %+v, %v", j, l, e)
	}
	return l
}

// world is a device with two nodes' holders: one (h) that is looked at, of the node 0, and another one, of the node 1.
type world struct {
	t        *testing.T
	j        api.Job
	d        *device.Device
	h, other *holder.Holder
}

func begin(t *testing.T, j api.Job) *world {
	t.Helper()
	d, h := began(t, j)
	return &world{t, j, d, h, opened(t, d, j, 1, 1)}
}
