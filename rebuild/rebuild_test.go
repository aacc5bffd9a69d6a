package rebuild_test

import (
	"slices"
	"testing"

	"millpond/api"
	"millpond/area"
	"millpond/device"
	"millpond/rebuild"
)

// laid is a device as it is when the first so many of the sectors of these pages are written, one behind the other.
func laid(t *testing.T, d *device.Device, j api.Job, l []api.Found, sectors int) *device.Device {
	t.Helper()
	c := d.Copy()
	for _, f := range l {
		halves := sectorsOf(t, f.Page, f.V)
		for i, s := range halves {
			if sectors == 0 {
				return c
			}
			lay(t, c, pageAt(t, j, f.Page)+i, s)
			sectors--
		}
	}
	return c
}

// P12.2, P12.3: the chapter's examples.
func TestExamples(t *testing.T) {
	j := of(2, 2, 2)
	d := made(t, j, 1, 1)
	is := func(n int, want ...api.Found) {
		t.Helper()
		best(t, d, j, want...)
		rebuilt(t, d.Copy(), j, 0, 1, n)
	}
	x := api.Record{Node: 1, Epoch: 1, LSN: 1, PSN: 1, Body: api.Body{'x'}}
	y := api.Version{PSN: 2, Body: api.Body{'y'}}

	is(0, in(0, api.Version{}), in(1, api.Version{}))
	layRecord(t, d, j, x)
	is(1, logged(x), in(1, api.Version{}))
	layPage(t, d, j, 0, y)
	is(0, in(0, y), in(1, api.Version{}))
	half := halvesOf(t, api.Record{Node: 1, Epoch: 1, LSN: 2, PSN: 3})
	lay(t, d, recordAt(t, j, 1, 2), half[0])
	is(0, in(0, y), in(1, api.Version{}))
	spoil(t, d, j, 0)
	tell(t, lookAtLogs, api.ErrCorrupt, d, j, asked{epoch: 1})
}

// P12.3: Rebuild writes what is missing, and nothing else; whoever of the job's nodes asks.
func TestRebuildWritesWhatIsMissing(t *testing.T) {
	j := of(2, 4, 2)
	for node := range 2 {
		d, lost := lossy(t, j)
		was, had := d.Copy(), durable(t, d, j)
		rebuilt(t, d, j, node, 1, 3)
		if d.Done() != was.Done()+6 || !device.Same(d, laid(t, was, j, lost, 6)) {
			t.Errorf("by the node %d: %d things were done", node, d.Done()-was.Done())
		}
		follows(t, d, j, node, 1, had)
	}
}

// follows fails unless a device is as it is behind a Rebuild: nothing is missing, what is durable is what it was, and once more nothing is written.
func follows(t *testing.T, d *device.Device, j api.Job, node int, epoch int64, had []api.Version) {
	t.Helper()
	for p, v := range had {
		place(t, d, j, p, v, true)
	}
	tells(t, rebuild.Missing(d, j))
	if l := durable(t, d, j); !slices.Equal(l, had) {
		t.Fatalf("Durable is %+v, and was %+v", l, had)
	}
	was := d.Copy()
	rebuilt(t, d, j, node, epoch, 0)
	untouched(t, "Rebuild once more", d, was)
}

// P12.3, P12.4, P0.5: pages are written rising, each half behind the other: so a cut at each sector leaves the first ones. It is answered as without a cut; what is durable is what it was; another Rebuild, by whoever, does the rest, whether it is cut itself or not.
func TestRebuildThatIsCut(t *testing.T) {
	j := of(2, 4, 2)
	d, lost := lossy(t, j)
	had := durable(t, d, j)
	for sectors := range 8 {
		c := d.Copy()
		c.Cut(sectors)
		rebuilt(t, c, j, 1, 1, 3)
		if whole := c.Whole(); whole != (sectors >= 6) {
			t.Errorf("a cut of %d: %v", sectors, whole)
		}
		if !device.Same(c, laid(t, d, j, lost, sectors)) {
			t.Errorf("a cut of %d: it wrote something else", sectors)
		}
		if l := durable(t, c, j); !slices.Equal(l, had) {
			t.Errorf("a cut of %d: Durable is %+v, and was %+v", sectors, l, had)
		}
		left := 3 - sectors/2
		if sectors == 3 { // noughts are laid over one torn half: behind the first sector it is not whole yet
			place(t, c, j, 2, api.Version{}, false)
		}
		again := c.Copy()
		rebuilt(t, again, j, 0, 1, max(0, left))
		follows(t, again, j, 0, 1, had)
		for more := range 7 {
			again := c.Copy()
			again.Cut(more)
			rebuilt(t, again, j, 0, 1, max(0, left))
			again.Whole()
			if l := durable(t, again, j); !slices.Equal(l, had) {
				t.Errorf("cuts of %d and %d: Durable is %+v, and was %+v", sectors, more, l, had)
			}
			rebuilt(t, again, j, 1, 1, len(slices.Collect(rebuild.Missing(again, j))))
			follows(t, again, j, 1, 1, had)
		}
	}
}

// P12.4, P0.5: each thing that lies at a place, torn or whole, is written over sector by sector; in between it is never taken for a version that was not written so.
func TestCutOverWhatLiesThere(t *testing.T) {
	j := of(2, 3, 2)
	r := recordOf(1, 1, 1, 1, 9)
	five := sectorsOf(t, 1, version(5, 'a'))
	nine := sectorsOf(t, 1, logged(r).V)
	places := append(wrongPlaces(t), [2]api.Sector{}, five, [2]api.Sector{nine[0], five[1]}, [2]api.Sector{five[0], nine[1]}, [2]api.Sector{{}, nine[1]})
	for i, l := range places {
		for sectors := range 3 {
			d := made(t, j, 1, 1)
			layRecord(t, d, j, r)
			lay(t, d, pageAt(t, j, 1), l[:]...)
			had := durable(t, d, j)
			if had[1] != logged(r).V {
				t.Fatalf("the place %d: %+v", i, had)
			}
			d.Cut(sectors)
			rebuilt(t, d, j, 0, 1, 1)
			d.Whole()
			if now := durable(t, d, j); !slices.Equal(now, had) {
				t.Errorf("the place %d, a cut of %d: %+v", i, sectors, now)
			}
			rebuilt(t, d, j, 0, 1, len(slices.Collect(rebuild.Missing(d, j))))
			follows(t, d, j, 0, 1, had)
		}
	}
}

// P12.4: what is written in no log and no page's place changes nothing of what is durable, or missing: the view, the leases, what lies behind the job's sectors, epochs.
func TestWhatLiesElsewhere(t *testing.T) {
	j := of(2, 4, 2)
	small, lost := lossy(t, j)
	many, _ := area.Sectors(j)
	d, e := device.Of(append(small.Bytes(), make([]byte, 40*api.SectorSize)...), 1, 1, 1)
	if e != api.OK {
		t.Fatal(e)
	}
	want := append([]api.Found{in(0, version(9, 'p'))}, lost...)
	best(t, d, j, want...)
	head, rec, pg := api.Sector{179}, halvesOf(t, recordOf(0, 1, 2, 2, 99)), sectorsOf(t, 2, version(99, 'q'))
	written := 0
	for i := range d.Size() {
		if p, e := area.Of(j, i); e == api.OK && p.Kind != api.PlaceView && p.Kind != api.PlaceLease {
			continue
		}
		for _, s := range []api.Sector{head, rec[0], pg[0], {255, 255}, rec[i%2], pg[i%2]} {
			lay(t, d, i, s)
			best(t, d, j, want...)
		}
		written++
	}
	if written != 1+api.MaxNodes+40 {
		t.Errorf("%d sectors of %d, %d", written, many, d.Size())
	}
	d.Up(1)
	d.Up(2)
	best(t, d, j, want...)
	was := d.Copy()
	rebuilt(t, d, j, 1, 2, 3)
	if !device.Same(d, laid(t, was, j, lost, 6)) {
		t.Error("Rebuild wrote something else")
	}
}

// P12.1, P12.2: what lies in a log behind its end, or ahead of its beginning, counts for nothing.
func TestWhatLiesInALogBeyondItsRecords(t *testing.T) {
	j := of(2, 1, 6)
	d := made(t, j, 1, 1)
	layHead(t, d, j, 0, 3, 1)
	three, four := recordOf(0, 1, 3, 0, 5), recordOf(0, 1, 4, 0, 6)
	layRecord(t, d, j, recordOf(0, 1, 1, 0, 50), recordOf(0, 1, 2, 0, 51), three, four, recordOf(0, 1, 6, 0, 52))
	records(t, d, j, 0, three, four)
	best(t, d, j, logged(four))
	layRecord(t, d, j, recordOf(0, 1, 5, 0, 4))
	best(t, d, j, logged(recordOf(0, 1, 6, 0, 52)))
	layRecord(t, d, j, recordOf(0, 1, 7, 0, 53))
	best(t, d, j, logged(recordOf(0, 1, 7, 0, 53)))
}

// P12.3: the epoch of who rebuilds needn't be that of any record; a node that never came up may, by the epoch 0.
func TestWhoRebuilds(t *testing.T) {
	j := of(3, 1, 2)
	for node, epoch := range []int64{0, 7, api.MaxEpoch} {
		d := made(t, j, 0, 7, api.MaxEpoch)
		r := recordOf(1, 3, 1, 0, 2)
		layRecord(t, d, j, r)
		rebuilt(t, d, j, node, epoch, 1)
		follows(t, d, j, node, epoch, []api.Version{logged(r).V})
		records(t, d, j, 1, r)
	}
}
