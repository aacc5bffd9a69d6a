package holder_test

import (
	"testing"

	"millpond/api"
	"millpond/area"
	"millpond/record"
)

// P17.6: Sync flushes the log, and does nothing else; of none it is OK.
func TestSync(t *testing.T) {
	j := of(2, 2, 4)
	d, h := began(t, j)
	on := d.Copy()
	fine(t, "Sync", h.Sync())
	untouched(t, "Sync of none", d, on)
	grants(t, h, 0, 1, api.Exclusive)
	for psn := range int64(3) {
		v := writes(t, h, 0, psn+1)
		logged(t, h, j, 1, psn+2, psn)
		fine(t, "Sync", h.Sync())
		logged(t, h, j, 1, psn+2, psn+1)
		has(t, h, api.Frame{Page: 0, Mode: api.Exclusive, Op: 1, First: 1, V: v, Dirty: true})
		stands(t, d, j, 0, api.Version{})
	}
	recorded(t, d, j, 0, 1, api.Mark{Page: 0, PSN: 1}, api.Mark{Page: 0, PSN: 2}, api.Mark{Page: 0, PSN: 3})
	done := d.Done()
	fine(t, "Sync", h.Sync())
	if d.Done() != done {
		t.Error("what is flushed is written again")
	}
}

// headed fails unless a node's head says so.
func headed(t *testing.T, w *world, start, epoch int64) {
	t.Helper()
	at, _ := area.Head(w.j, 0)
	s, _ := w.d.Read(at)
	if h, e := record.TakeHead(s); h != (api.Head{Start: start, Epoch: epoch}) || e != api.OK {
		t.Fatalf("the head is %+v, %v; not %d, %d", h, e, start, epoch)
	}
}

// P17.6: Cut with no marks and frames, and with those that keep nothing: behind the last record. The head is written also where nothing changes.
func TestCutWithNothingKept(t *testing.T) {
	j := of(3, 3, 4)
	w := begin(t, j)
	done := w.d.Done()
	fine(t, "Cut", w.h.Cut())
	headed(t, w, 1, 1)
	if w.d.Done() != done+1 {
		t.Error(w.d.Done() - done)
	}
	grants(t, w.h, 0, 1, api.Exclusive)
	takes(t, w.h, 1, 1, api.Shared, version(3, 3), true) // dirty from elsewhere
	writes(t, w.h, 0, 1)
	writes(t, w.h, 0, 2)
	backs(t, w.h, 0, 2)
	fine(t, "Cut", w.h.Cut())
	logged(t, w.h, j, 3, 3, 2)
	headed(t, w, 3, 1)
	recorded(t, w.d, j, 0, 3)
}

// P17.6: Cut with Firsts, with marks, with both, in either order: up to the least of them. The log is flushed ahead of that.
func TestCutWithFirstsAndMarks(t *testing.T) {
	j := of(4, 4, 8)
	for pattern := range 16 { // of the pages 0 to 3 with the LSNs 1 to 4: which ones are dirty, and which ones are marks
		for gone := range 16 {
			w := begin(t, j)
			for number := range 4 {
				grants(t, w.h, number, 1, api.Exclusive)
				writes(t, w.h, number, 1)
			}
			writes(t, w.h, 0, 2)
			keeps := int64(6)
			for number := 3; number >= 0; number-- {
				f, _ := w.h.Look(number)
				switch {
				case pattern>>number&1 == 0:
					backs(t, w.h, number, f.V.PSN)
				case gone>>number&1 == 1:
					yields(t, w.h, number, 2, f)
					keeps = int64(number) + 1
				default:
					keeps = int64(number) + 1
				}
			}
			was := see(w.h)
			fine(t, "Cut", w.h.Cut())
			logged(t, w.h, j, keeps, 6, 5)
			headed(t, w, keeps, 1)
			was.start, was.flushed, was.room = keeps, 5, 8-int(6-keeps)
			stays(t, "Cut, but for the log", w.h, was)
		}
	}
}

// P17.6: a mark that goes, and a page that is written back, let the log be cut further; and so it goes round, over and over.
func TestCutFurtherAndFurther(t *testing.T) {
	j := of(2, 2, 4)
	_, h := began(t, j)
	op := int64(1)
	grants(t, h, 1, 1, api.Exclusive)
	for time := range int64(12) {
		first := 2*time + 1
		takes(t, h, 0, op, api.Exclusive, api.Version{PSN: 2 * time}, false)
		writes(t, h, 0, 2*time+1)
		writes(t, h, 1, time+1)
		f, _ := h.Look(0)
		yields(t, h, 0, op+1, f)
		fine(t, "Cut", h.Cut())
		logged(t, h, j, first, first+2, first+1)
		discards(t, h, 0, f.V.PSN, 1)
		fine(t, "Cut", h.Cut())
		logged(t, h, j, first+1, first+2, first+1)
		backs(t, h, 1, time+1)
		fine(t, "Cut", h.Cut())
		logged(t, h, j, first+2, first+2, first+1)
		op += 2
	}
}

// P17.6: Cut as a node does it that comes up: behind the records of its elder epochs; also amidst them, where a frame of now keeps what comes behind.
func TestCutBehindElderRecords(t *testing.T) {
	j := of(2, 2, 4)
	w := begin(t, j)
	grants(t, w.h, 0, 1, api.Exclusive)
	writes(t, w.h, 0, 1)
	writes(t, w.h, 0, 2)
	fine(t, "Sync", w.h.Sync())
	w.d.Up(0)
	h := opened(t, w.d, j, 0, 2)
	logged(t, h, j, 1, 3, 2)
	grants(t, h, 1, 1, api.Exclusive)
	writes(t, h, 1, 1)
	fine(t, "Cut", h.Cut())
	logged(t, h, j, 3, 4, 3)
	headed(t, w, 3, 2)
	recorded(t, w.d, j, 0, 3, api.Mark{Page: 1, PSN: 1})
}

// P17.6, P17.8: Freeze: each page that was dirty stands in its place, whole; no frames, no marks; the log is flushed, and not cut. All goes on behind it.
func TestFreeze(t *testing.T) {
	j := of(5, 4, 8)
	w := begin(t, j)
	on := w.d.Copy()
	fine(t, "Freeze", w.h.Freeze())
	untouched(t, "Freeze of none", w.d, on)

	layPage(t, w.d, j, 3, version(5, 5))
	grants(t, w.h, 3, 9, api.Shared)
	grants(t, w.h, 0, 9, api.Exclusive)
	grants(t, w.h, 1, 9, api.Exclusive)
	writes(t, w.h, 1, 1)
	yields(t, w.h, 1, 10, api.Frame{Page: 1, Mode: api.Exclusive, Op: 9, First: 1, V: version(1, 17), Dirty: true})
	takes(t, w.h, 2, 9, api.Shared, version(6, 6), true)
	writes(t, w.h, 0, 1)
	v := writes(t, w.h, 0, 2)
	marked(t, w.h, api.Mark{Page: 1, PSN: 1, First: 1})
	fine(t, "Freeze", w.h.Freeze())
	has(t, w.h)
	marked(t, w.h)
	logged(t, w.h, j, 1, 4, 3)
	for number, want := range []api.Version{v, {}, version(6, 6), version(5, 5), {}} {
		stands(t, w.d, j, number, want)
	}
	recorded(t, w.d, j, 0, 1, api.Mark{Page: 1, PSN: 1}, api.Mark{Page: 0, PSN: 1}, api.Mark{Page: 0, PSN: 2})

	on = w.d.Copy()
	fine(t, "Freeze", w.h.Freeze())
	untouched(t, "Freeze once more", w.d, on)
	for number := range 4 { // all places are free, and ops begin anew
		grants(t, w.h, number, 1, api.Exclusive)
	}
	frees(t, w.h, 4, api.Left{Page: 0, Op: 1, Gone: true}) // the hand stands at the first one
	reads(t, w.h, 2, version(6, 6))
	writes(t, w.h, 2, 7)
	fine(t, "Cut", w.h.Cut())
	logged(t, w.h, j, 4, 5, 4)
}

// P17.6: Freeze of marks alone: they go, and nothing is written.
func TestFreezeOfMarksAlone(t *testing.T) {
	j := of(1, 1, 4)
	w := begin(t, j)
	grants(t, w.h, 0, 1, api.Exclusive)
	v := writes(t, w.h, 0, 1)
	yields(t, w.h, 0, 2, api.Frame{Page: 0, Mode: api.Exclusive, Op: 1, First: 1, V: v, Dirty: true})
	on := w.d.Copy()
	fine(t, "Freeze", w.h.Freeze())
	marked(t, w.h)
	untouched(t, "Freeze", w.d, on)
	fine(t, "Cut", w.h.Cut())
	logged(t, w.h, j, 2, 2, 1)
}
