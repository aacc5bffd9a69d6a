package holder_test

import (
	"testing"

	"millpond/api"
)

// P17.2: Read of a page that is held shared, exclusively, not at all; of what stands on the device, of what another node sent, of what was written.
func TestRead(t *testing.T) {
	j := of(5, 4, 4)
	d, h := began(t, j)
	layPage(t, d, j, 0, version(3, 3))
	for number := range 5 {
		if v, e := h.Read(number); v != (api.Version{}) || e != api.ErrNone {
			t.Errorf("the page %d is held by nobody: %+v, %v", number, v, e)
		}
	}
	grants(t, h, 0, 1, api.Shared)
	grants(t, h, 1, 1, api.Exclusive)
	takes(t, h, 2, 1, api.Shared, version(9, 9), false)
	takes(t, h, 3, 1, api.Exclusive, version(api.MaxStamp-1, 4), true)
	for range 2 {
		reads(t, h, 0, version(3, 3))
		reads(t, h, 1, api.Version{})
		reads(t, h, 2, version(9, 9))
		reads(t, h, 3, version(api.MaxStamp-1, 4))
	}
	reads(t, h, 1, writes(t, h, 1, 1))
	reads(t, h, 3, writes(t, h, 3, api.MaxStamp))
	was := see(h)
	for number := range 4 {
		h.Read(number)
	}
	stays(t, "Read", h, was)
	if _, e := h.Read(4); e != api.ErrNone {
		t.Error(e)
	}
}

// P17.2: Write of a page that is held shared, or not at all, is ErrNone; of one that was held exclusively, too.
func TestWriteOfWhatIsNotHeldExclusively(t *testing.T) {
	j := of(4, 3, 4)
	_, h := began(t, j)
	grants(t, h, 0, 1, api.Shared)
	takes(t, h, 1, 1, api.Shared, version(2, 2), true)
	grants(t, h, 2, 1, api.Exclusive)
	shares(t, h, 2, 2, api.Frame{Page: 2, Mode: api.Shared, Op: 2})
	was := see(h)
	for number := range 4 {
		if v, e := h.Write(number, body(1)); v != (api.Version{}) || e != api.ErrNone {
			t.Errorf("Write(%d): %+v, %v", number, v, e)
		}
		stays(t, "Write", h, was)
	}
	grants(t, h, 0, 2, api.Exclusive)
	writes(t, h, 0, 1)
}

// P17.2: each Write is a record in memory, one PSN more, dirty; First is the first record's, till the page is written back. The device stays as it is.
func TestWrite(t *testing.T) {
	j := of(2, 2, 6)
	d, h := began(t, j)
	layPage(t, d, j, 1, version(4, 4))
	grants(t, h, 0, 7, api.Exclusive)
	grants(t, h, 1, 8, api.Exclusive)
	was := d.Copy()

	first := api.Frame{Page: 0, Mode: api.Exclusive, Op: 7}
	second := api.Frame{Page: 1, Mode: api.Exclusive, Op: 8, V: version(4, 4)}
	has(t, h, first, second)
	first.V, first.First, first.Dirty = writes(t, h, 0, 1), 1, true
	has(t, h, first, second)
	second.V, second.First, second.Dirty = writes(t, h, 1, 5), 2, true
	has(t, h, first, second)
	first.V = writes(t, h, 0, 2)
	second.V = writes(t, h, 1, 6)
	has(t, h, first, second)
	logged(t, h, j, 1, 5, 0)
	untouched(t, "Write", d, was)

	backs(t, h, 0, 2)
	first.First, first.Dirty = 0, false
	has(t, h, first, second)
	first.V, first.First, first.Dirty = writes(t, h, 0, 3), 5, true
	has(t, h, first, second)
	logged(t, h, j, 1, 6, 4)
	fine(t, "Sync", h.Sync())
	recorded(t, d, j, 0, 1, api.Mark{Page: 0, PSN: 1}, api.Mark{Page: 1, PSN: 5}, api.Mark{Page: 0, PSN: 2}, api.Mark{Page: 1, PSN: 6}, api.Mark{Page: 0, PSN: 3})
}

// P17.2: First of a page that another node sent dirty is its first record's here.
func TestFirstOfWhatCameDirty(t *testing.T) {
	j := of(2, 2, 4)
	_, h := began(t, j)
	grants(t, h, 0, 1, api.Exclusive)
	writes(t, h, 0, 1)
	takes(t, h, 1, 1, api.Exclusive, version(5, 5), true)
	v := writes(t, h, 1, 6)
	if f, _ := h.Look(1); f != (api.Frame{Page: 1, Mode: api.Exclusive, Op: 1, First: 2, V: v, Dirty: true}) {
		t.Errorf("%+v", f)
	}
}

// P17.2: any body is written as it is, noughts too.
func TestWriteOfNoughts(t *testing.T) {
	j := of(1, 1, 4)
	_, h := began(t, j)
	grants(t, h, 0, 1, api.Exclusive)
	for psn, b := range []api.Body{{}, body(1), {}, {95: 9}} {
		want := api.Version{PSN: int64(psn) + 1, Body: b}
		if v, e := h.Write(0, b); v != want || e != api.OK {
			t.Errorf("%+v, %v", v, e)
		}
		reads(t, h, 0, want)
	}
}

// P17.2: a log that has no room is ErrFull, of each page, till it was cut.
func TestWriteOfAFullLog(t *testing.T) {
	for _, log := range []int{2, 3, api.MaxLog} {
		j := of(2, 2, log)
		_, h := began(t, j)
		grants(t, h, 0, 1, api.Exclusive)
		grants(t, h, 1, 1, api.Exclusive)
		for psn := range int64(log) {
			writes(t, h, 0, psn+1)
		}
		for _, what := range []func(){func() {}, func() { fine(t, "Sync", h.Sync()) }, func() { fine(t, "Cut", h.Cut()) }, func() { backs(t, h, 0, int64(log)) }} {
			what()
			was := see(h)
			for number := range 2 {
				if v, e := h.Write(number, body(1)); v != (api.Version{}) || e != api.ErrFull {
					t.Errorf("Write(%d): %+v, %v", number, v, e)
				}
			}
			stays(t, "Write", h, was)
		}
		fine(t, "Cut", h.Cut())
		writes(t, h, 1, 1)
		writes(t, h, 0, int64(log)+1)
	}
}

// P17.2: a page of the greatest PSN is ErrFull, others are not.
func TestWriteOfTheGreatestPSN(t *testing.T) {
	j := of(2, 2, 4)
	_, h := began(t, j)
	takes(t, h, 0, 1, api.Exclusive, version(api.MaxStamp-1, 1), false)
	grants(t, h, 1, 1, api.Exclusive)
	writes(t, h, 0, api.MaxStamp)
	was := see(h)
	if v, e := h.Write(0, body(1)); v != (api.Version{}) || e != api.ErrFull {
		t.Errorf("%+v, %v", v, e)
	}
	stays(t, "Write", h, was)
	writes(t, h, 1, 1)
}

// P17.2: LSNs up to the greatest one: a log that has come there has no room.
func TestWriteOfTheLastLSNs(t *testing.T) {
	j := of(1, 1, 4)
	d := made(t, j)
	layHead(t, d, j, 0, api.MaxStamp-1, 1)
	h := opened(t, d, j, 0, 1)
	grants(t, h, 0, 1, api.Exclusive)
	v := writes(t, h, 0, 1)
	f := api.Frame{Page: 0, Mode: api.Exclusive, Op: 1, First: api.MaxStamp - 1, V: v, Dirty: true}
	has(t, h, f)
	if _, e := h.Write(0, body(1)); e != api.ErrFull {
		t.Error(e)
	}
	yields(t, h, 0, 2, f)
	marked(t, h, api.Mark{Page: 0, PSN: 1, First: api.MaxStamp - 1})
	discards(t, h, 0, 1, 1)
	fine(t, "Cut", h.Cut())
	if h.Start() != api.MaxStamp || h.Room() != 0 {
		t.Error(h.Start(), h.Room())
	}
}
