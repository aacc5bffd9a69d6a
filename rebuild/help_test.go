package rebuild_test

import (
	"iter"
	"math"
	"slices"
	"testing"

	"millpond/api"
	"millpond/area"
	"millpond/device"
	"millpond/page"
	"millpond/rebuild"
	"millpond/record"
)

// far are numbers far from all bounds, and such as wrap round to small ones.
var far = []int64{-1, -2, math.MinInt64, math.MaxInt64, math.MinInt32, 1 << 32, 1<<32 + 1, -1 << 32, 1<<62 + 1, math.MinInt64 + 1}

// of is a job.
func of(nodes, pages, log int) api.Job {
	return api.Job{Nodes: nodes, Pages: pages, Frames: 1, Log: log, Patience: 2}
}

// sized is a device of noughts.
func sized(t *testing.T, sectors int, epochs ...int64) *device.Device {
	t.Helper()
	d, e := device.Of(make([]byte, sectors*api.SectorSize), epochs...)
	if e != api.OK {
		t.Fatalf("a device of %d sectors, %v: %v", sectors, epochs, e)
	}
	return d
}

// made is a device just as great as the job, of noughts, with these epochs (and 0 for nodes behind them).
func made(t *testing.T, j api.Job, epochs ...int64) *device.Device {
	t.Helper()
	many, e := area.Sectors(j)
	if e != api.OK {
		t.Fatalf("%+v: %v", j, e)
	}
	return sized(t, many, append(epochs, make([]int64, j.Nodes-len(epochs))...)...)
}

// version is one whose bytes tell its PSN and a letter, in both halves.
func version(psn int64, letter byte) api.Version {
	v := api.Version{PSN: psn}
	v.Body[0], v.Body[47], v.Body[48], v.Body[95] = byte(psn), letter, letter, byte(psn>>8)
	return v
}

// recordOf is the record of such a version, whose letter tells the node and the LSN.
func recordOf(node int, epoch, lsn int64, page int, psn int64) api.Record {
	return api.Record{Node: node, Epoch: epoch, LSN: lsn, Page: page, PSN: psn, Body: version(psn, letter(node, lsn)).Body}
}

func letter(node int, lsn int64) byte { return byte(16*node) + byte(lsn%16) }

// lay puts sectors on a device, by whoever the node 0 is by then.
func lay(t *testing.T, d *device.Device, first int, l ...api.Sector) {
	t.Helper()
	epoch, _ := d.Epoch(0)
	if e := d.Write(0, epoch, first, l...); e != api.OK {
		t.Fatalf("the sector %d: %v", first, e)
	}
}

// at is where something lies, which layer 5 says.
func at(t *testing.T, first int, e api.Errno) int {
	t.Helper()
	if e != api.OK {
		t.Fatalf("no such place: %v", e)
	}
	return first
}

func headAt(t *testing.T, j api.Job, node int) int {
	t.Helper()
	first, e := area.Head(j, node)
	return at(t, first, e)
}

func recordAt(t *testing.T, j api.Job, node int, lsn int64) int {
	t.Helper()
	first, e := area.Record(j, node, lsn)
	return at(t, first, e)
}

func pageAt(t *testing.T, j api.Job, page int) int {
	t.Helper()
	first, e := area.Page(j, page)
	return at(t, first, e)
}

func layHead(t *testing.T, d *device.Device, j api.Job, node int, start, epoch int64) {
	t.Helper()
	s, e := record.PutHead(api.Head{Start: start, Epoch: epoch})
	if e != api.OK {
		t.Fatalf("the head %d, %d: %v", start, epoch, e)
	}
	lay(t, d, headAt(t, j, node), s)
}

// halvesOf are a record's sectors.
func halvesOf(t *testing.T, r api.Record) [2]api.Sector {
	t.Helper()
	l, e := record.Put(r)
	if e != api.OK {
		t.Fatalf("%+v: %v", r, e)
	}
	return l
}

// layAs puts a record at the place of that LSN in a node's log, whosever it is.
func layAs(t *testing.T, d *device.Device, j api.Job, node int, lsn int64, r api.Record) {
	t.Helper()
	l := halvesOf(t, r)
	lay(t, d, recordAt(t, j, node, lsn), l[:]...)
}

// layRecord puts records each at its own place.
func layRecord(t *testing.T, d *device.Device, j api.Job, l ...api.Record) {
	t.Helper()
	for _, r := range l {
		layAs(t, d, j, r.Node, r.LSN, r)
	}
}

// sectorsOf are a page's version's.
func sectorsOf(t *testing.T, number int, v api.Version) [2]api.Sector {
	t.Helper()
	l, e := page.Put(number, v)
	if e != api.OK {
		t.Fatalf("%d, %+v: %v", number, v, e)
	}
	return l
}

// layPage puts a version into a page's place.
func layPage(t *testing.T, d *device.Device, j api.Job, number int, v api.Version) {
	t.Helper()
	l := sectorsOf(t, number, v)
	lay(t, d, pageAt(t, j, number), l[:]...)
}

// tear puts a page's place so that it is not whole, by the second half of a version that is none of any other one here.
func tear(t *testing.T, d *device.Device, j api.Job, number int) {
	t.Helper()
	l := sectorsOf(t, number, version(1<<20, 't'))
	lay(t, d, pageAt(t, j, number)+1, l[1])
}

// untouched fails, if anything was done to a device.
func untouched(t *testing.T, what string, d, was *device.Device) {
	t.Helper()
	if !device.Same(d, was) || d.Done() != was.Done() {
		t.Errorf("%s: the device is another one, by %d things", what, d.Done()-was.Done())
	}
}

// in is a best one that its place has; nought is version 0, which stands nowhere; logged is one of a record.
func in(page int, v api.Version) api.Found { return api.Found{Page: page, V: v, In: true} }

func nought(page int) api.Found { return api.Found{Page: page} }

func logged(r api.Record) api.Found {
	return api.Found{Page: r.Page, V: api.Version{PSN: r.PSN, Body: r.Body}, Node: r.Node, LSN: r.LSN}
}

// records fails unless these are a node's log's.
func records(t *testing.T, d *device.Device, j api.Job, node int, want ...api.Record) {
	t.Helper()
	if l, e := rebuild.Records(d, j, node); e != api.OK || !slices.Equal(l, want) {
		t.Fatalf("Records(%+v, %d): %+v, %v; not %+v", j, node, l, e, want)
	}
}

// place fails unless a page's place has that, whole or not.
func place(t *testing.T, d *device.Device, j api.Job, page int, want api.Version, whole bool) {
	t.Helper()
	if v, ok, e := rebuild.Place(d, j, page); v != want || ok != whole || e != api.OK {
		t.Fatalf("Place(%+v, %d): %+v, %v, %v; not %+v, %v", j, page, v, ok, e, want, whole)
	}
}

// missingOf are those that their places do not have.
func missingOf(l []api.Found) []api.Found {
	return slices.DeleteFunc(slices.Clone(l), func(f api.Found) bool { return f.In })
}

func versionsOf(l []api.Found) []api.Version {
	var vs []api.Version
	for _, f := range l {
		vs = append(vs, f.V)
	}
	return vs
}

// best fails unless these are all pages' best ones, for Best, Durable and Missing, and nothing is done by that.
func best(t *testing.T, d *device.Device, j api.Job, want ...api.Found) {
	t.Helper()
	was := d.Copy()
	if l, e := rebuild.Best(d, j); e != api.OK || !slices.Equal(l, want) {
		t.Fatalf("Best(%+v): %+v, %v; not %+v", j, l, e, want)
	}
	if l, e := rebuild.Durable(d, j); e != api.OK || !slices.Equal(l, versionsOf(want)) {
		t.Fatalf("Durable(%+v): %+v, %v; not %+v", j, l, e, versionsOf(want))
	}
	tells(t, rebuild.Missing(d, j), missingOf(want)...)
	untouched(t, "a look", d, was)
}

// tells fails unless just these are gone over.
func tells(t *testing.T, all iter.Seq[api.Found], want ...api.Found) {
	t.Helper()
	if got := slices.Collect(all); !slices.Equal(got, want) {
		t.Fatalf("Missing: %+v, not %+v", got, want)
	}
}

// durable is what Durable tells.
func durable(t *testing.T, d *device.Device, j api.Job) []api.Version {
	t.Helper()
	l, e := rebuild.Durable(d, j)
	if e != api.OK || len(l) != j.Pages {
		t.Fatalf("Durable(%+v): %+v, %v", j, l, e)
	}
	return l
}

// rebuilt fails unless so many are written.
func rebuilt(t *testing.T, d *device.Device, j api.Job, node int, epoch int64, want int) {
	t.Helper()
	if n, e := rebuild.Rebuild(d, j, node, epoch); n != want || e != api.OK {
		t.Fatalf("Rebuild(%+v, %d, %d): %d, %v; not %d", j, node, epoch, n, e, want)
	}
}
