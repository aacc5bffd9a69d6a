package holder_test

import (
	"strings"
	"testing"

	"millpond/api"
	"millpond/area"
	"millpond/device"
	"millpond/holder"
)

// loaded is a holder of four pages that are all held exclusively by the op 5, and written: the pages 0 to 2 once, 0 and 1 twice, in turn; the page 3 came dirty from elsewhere. So many of the five records are flushed.
func loaded(t *testing.T, flushed int) *world {
	t.Helper()
	j := of(6, 4, 8)
	w := begin(t, j)
	takes(t, w.h, 3, 5, api.Exclusive, version(7, 7), true)
	for n, number := range []int{0, 1, 2, 0, 1} {
		if n < 3 {
			grants(t, w.h, number, 5, api.Exclusive)
		}
		writes(t, w.h, number, int64(n)/3+1)
		if n+1 == flushed {
			fine(t, "Sync", w.h.Sync())
		}
	}
	logged(t, w.h, j, 1, 6, int64(flushed))
	return w
}

// refused fails unless a call tells ErrFenced, with zeros beside it.
func refused(t *testing.T, c call, h *holder.Holder, a asked) {
	t.Helper()
	if zero, e := c.do(h, a); !zero || e != api.ErrFenced {
		t.Fatalf("%s(%+v): %v; zeros beside it: %v", c.name, a, e, zero)
	}
}

// P17.3 to P17.6: each call that writes is ErrFenced, of a fenced holder, where there is something to write; the device, the frames, the marks and the log stay as they were.
func TestFenced(t *testing.T) {
	for _, c := range calls() {
		if !c.writes {
			continue
		}
		for number := range 5 {
			if c.name == "Free" != (number == 4) {
				continue
			}
			for flushed := range 6 {
				if flushed == 5 && (c.name == "Share" || c.name == "Yield" || c.name == "Sync") {
					continue // nothing is left to be written
				}
				w := loaded(t, flushed)
				w.d.Fence(1, 1, 0, 1)
				was, on := see(w.h), w.d.Copy()
				for range 2 {
					refused(t, c, w.h, asked{page: number, op: 9})
					stays(t, c.name, w.h, was)
				}
				untouched(t, c.name, w.d, on)
			}
		}
	}
}

// P17.2 to P17.6: who is fenced is not told so where nothing is written; and all that is in memory goes on.
func TestFencedWhereNothingIsWritten(t *testing.T) {
	w := loaded(t, 5)
	w.d.Fence(1, 1, 0, 1)
	on := w.d.Copy()
	fine(t, "Sync", w.h.Sync())
	f, _ := w.h.Look(0)
	f.Mode, f.Op = api.Shared, 6
	shares(t, w.h, 0, 6, f)
	yields(t, w.h, 0, 7, f)
	marked(t, w.h, api.Mark{Page: 0, PSN: 2, First: 1})
	discards(t, w.h, 0, 2, 1)
	frees(t, w.h, 4)
	grants(t, w.h, 4, 1, api.Shared)
	backs(t, w.h, 4, 0)
	drops(t, w.h, 4, 2, true)
	takes(t, w.h, 5, 1, api.Exclusive, version(3, 3), false)
	backs(t, w.h, 5, 3)
	reads(t, w.h, 5, version(3, 3))
	writes(t, w.h, 5, 4)
	untouched(t, "a fenced one", w.d, on)

	one := begin(t, of(2, 1, 4))
	grants(t, one.h, 0, 1, api.Exclusive)
	one.d.Up(0)
	cleans(t, one.h)
	frees(t, one.h, 1, api.Left{Page: 0, Op: 1, Gone: true})
	fine(t, "Freeze", one.h.Freeze())
	if e := one.h.Cut(); e != api.ErrFenced { // the head is written in any case
		t.Error(e)
	}
}

// P17.3 to P17.6: whatever the device refuses is ErrFenced: an epoch above its own, a node that it does not have.
func TestOtherRefusals(t *testing.T) {
	j := api.Job{Nodes: 3, Pages: 2, Frames: 1, Log: 4, Patience: 2}
	many, _ := area.Sectors(j)
	d, _ := device.New(many, 2)
	d.Up(0)
	on := d.Copy()
	for _, h := range []*holder.Holder{opened(t, d, j, 0, 2), opened(t, d, j, 2, 1)} {
		takes(t, h, 0, 1, api.Exclusive, version(3, 3), true)
		names := " Back Clean Freeze Cut "
		for range 2 {
			for _, c := range calls() {
				if strings.Contains(names, " "+c.name+" ") {
					refused(t, c, h, asked{page: 0, op: 9})
				}
			}
			writes(t, h, 0, h.Next()+3)
			names += "Sync Share Yield "
		}
		if l, e := h.Free(1); len(l) != 0 || e != api.ErrFenced {
			t.Error(l, e)
		}
		untouched(t, "what is refused", d, on)
	}
}

// shrunk lets a device end ahead of a sector, so that it refuses what lies from there on: no node's epoch rises within a call, so nothing else is refused in the midst of one.
func shrunk(t *testing.T, w *world, sectors int) {
	t.Helper()
	epochs := make([]int64, w.d.Nodes())
	for node := range epochs {
		epochs[node], _ = w.d.Epoch(node)
	}
	small, e := device.Of(w.d.Bytes()[:sectors*api.SectorSize], epochs...)
	fine(t, "a small device", e)
	*w.d = *small
}

// P17.3 to P17.6: a log that is refused in the midst is flushed up to there, and nothing behind that is done: no frame is written back, or goes, or is held otherwise; no mark is made; no head is written.
func TestRefusedInTheLog(t *testing.T) {
	for _, c := range calls() {
		if !c.writes {
			continue
		}
		for flushed := range 5 {
			for fit := flushed; fit < 5; fit++ {
				w := loaded(t, flushed)
				number := 0
				if c.name == "Free" {
					number = 4
				}
				was := see(w.h)
				first, _ := area.Record(w.j, 0, 1)
				shrunk(t, w, first+2*fit)
				refused(t, c, w.h, asked{page: number, op: 9})
				was.flushed = int64(fit)
				stays(t, c.name, w.h, was)
				if w.d.Done() != int64(2*(fit-flushed)) {
					t.Fatalf("%s: %d things are done", c.name, w.d.Done())
				}
			}
		}
	}
}

// P17.5, P17.6: a page that is refused in the midst of Clean, or Freeze, leaves those ahead of it written back, and it and all others dirty; no frame and no mark goes.
func TestCleanRefusedInTheMidst(t *testing.T) {
	for _, c := range calls() {
		if c.name != "Clean" && c.name != "Freeze" {
			continue
		}
		for fit := range 4 {
			w := loaded(t, 2)
			grants(t, w.h, 3, 6, api.Exclusive)
			writes(t, w.h, 3, 8)
			f, _ := w.h.Look(3)
			yields(t, w.h, 3, 7, f)
			takes(t, w.h, 3, 8, api.Exclusive, version(9, 9), true)
			was := see(w.h)
			at, _ := area.Page(w.j, fit)
			shrunk(t, w, at+1) // half of a page's place is none
			refused(t, c, w.h, asked{})
			for n := range fit {
				was.frames[n].Dirty, was.frames[n].First = false, 0
				a, _ := area.Page(w.j, n)
				if s, _ := w.d.Read(a); s[0] != 161 {
					t.Errorf("the page %d is not written", n)
				}
			}
			was.flushed = 6
			stays(t, c.name, w.h, was)
			if len(was.marks) != 1 {
				t.Fatal(was.marks)
			}
			if w.d.Done() != int64(2*fit) {
				t.Errorf("%s: %d things are done", c.name, w.d.Done())
			}
		}
	}
}

// P17.3, P17.5: a page that is refused behind the log leaves the log flushed, and the page in its frame, dirty.
func TestBackRefusedBehindTheLog(t *testing.T) {
	for _, c := range calls() {
		if c.name != "Back" && c.name != "Free" {
			continue
		}
		w := loaded(t, 1)
		number := 3
		if c.name == "Free" {
			number = 5
		}
		was := see(w.h)
		at, _ := area.Page(w.j, 0)
		shrunk(t, w, at)
		refused(t, c, w.h, asked{page: number})
		was.flushed = 5
		stays(t, c.name, w.h, was)
	}
}
