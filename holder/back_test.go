package holder_test

import (
	"slices"
	"testing"

	"millpond/api"
)

// P17.5: Back: a page that is dirty is written back, and its frame has neither that nor a First any more; one that is not is not written; either way its PSN is told. The frame stays.
func TestBack(t *testing.T) {
	j := of(3, 2, 4)
	for _, f := range held() {
		w := with(t, j, f)
		was := w.d.Copy()
		backs(t, w.h, 0, f.V.PSN)
		g := f
		g.Dirty, g.First = false, 0
		has(t, w.h, g)
		marked(t, w.h)
		if !f.Dirty {
			untouched(t, "Back of what is not dirty", w.d, was)
			continue
		}
		stands(t, w.d, j, 0, f.V)
		if w.h.Flushed() != w.h.Next()-1 || w.d.Done() != was.Done()+2+2*w.h.Flushed() {
			t.Errorf("%+v: flushed up to %d of %d, %d things are done", f, w.h.Flushed(), w.h.Next(), w.d.Done()-was.Done())
		}
		was = w.d.Copy()
		backs(t, w.h, 0, f.V.PSN)
		untouched(t, "Back once more", w.d, was)
	}
}

// P17.5: Back of a page that no frame has is ErrNone.
func TestBackOfWhatIsNotThere(t *testing.T) {
	j := of(3, 2, 4)
	d, h := began(t, j)
	grants(t, h, 0, 1, api.Exclusive)
	writes(t, h, 0, 1)
	was, on := see(h), d.Copy()
	for number := 1; number < 3; number++ {
		if psn, e := h.Back(number); psn != 0 || e != api.ErrNone {
			t.Errorf("Back(%d): %d, %v", number, psn, e)
		}
	}
	stays(t, "Back", h, was)
	untouched(t, "Back", d, on)
}

// P17.5: Back flushes the whole log, and writes that page alone.
func TestBackWritesOnePage(t *testing.T) {
	j := of(2, 2, 4)
	d, h := began(t, j)
	grants(t, h, 0, 1, api.Exclusive)
	grants(t, h, 1, 1, api.Exclusive)
	writes(t, h, 0, 1)
	v := writes(t, h, 1, 1)
	w := writes(t, h, 0, 2)
	backs(t, h, 1, 1)
	stands(t, d, j, 0, api.Version{})
	stands(t, d, j, 1, v)
	logged(t, h, j, 1, 4, 3)
	has(t, h,
		api.Frame{Page: 0, Mode: api.Exclusive, Op: 1, First: 1, V: w, Dirty: true},
		api.Frame{Page: 1, Mode: api.Exclusive, Op: 1, V: v})
	done := d.Done()
	backs(t, h, 0, 2)
	if d.Done() != done+2 {
		t.Error("a log that is flushed is written again:", d.Done()-done)
	}
}

// P17.5: Clean of none: no frames, none that is dirty; nothing is written, nor is the log.
func TestCleanOfNone(t *testing.T) {
	j := of(3, 3, 4)
	d, h := began(t, j)
	on := d.Copy()
	cleans(t, h)
	grants(t, h, 2, 1, api.Exclusive)
	takes(t, h, 0, 1, api.Shared, version(3, 3), false)
	was := see(h)
	cleans(t, h)
	stays(t, "Clean", h, was)
	untouched(t, "Clean", d, on)
}

// P17.5: Clean of some: all that are dirty, by rising pages, whatever the order in which they came; the others are not told.
func TestClean(t *testing.T) {
	j := of(6, 5, 8)
	d, h := began(t, j)
	takes(t, h, 5, 4, api.Shared, version(7, 7), true)
	grants(t, h, 3, 1, api.Exclusive)
	grants(t, h, 0, 2, api.Exclusive)
	takes(t, h, 1, 6, api.Shared, version(9, 9), false)
	takes(t, h, 4, 3, api.Exclusive, version(2, 2), true)
	three := writes(t, h, 3, 1)
	four := writes(t, h, 4, 3)
	writes(t, h, 0, 1)
	nought := writes(t, h, 0, 2)
	cleans(t, h,
		api.Left{Page: 0, Op: 2, PSN: 2},
		api.Left{Page: 3, Op: 1, PSN: 1},
		api.Left{Page: 4, Op: 3, PSN: 3},
		api.Left{Page: 5, Op: 4, PSN: 7})
	for number, v := range []api.Version{nought, {}, {}, three, four, version(7, 7)} {
		stands(t, d, j, number, v)
	}
	has(t, h,
		api.Frame{Page: 0, Mode: api.Exclusive, Op: 2, V: nought},
		api.Frame{Page: 1, Mode: api.Shared, Op: 6, V: version(9, 9)},
		api.Frame{Page: 3, Mode: api.Exclusive, Op: 1, V: three},
		api.Frame{Page: 4, Mode: api.Exclusive, Op: 3, V: four},
		api.Frame{Page: 5, Mode: api.Shared, Op: 4, V: version(7, 7)})
	logged(t, h, j, 1, 5, 4)
	marked(t, h)
	cleans(t, h)
	five := writes(t, h, 4, 4)
	cleans(t, h, api.Left{Page: 4, Op: 3, PSN: 4})
	stands(t, d, j, 4, five)
}

// P17.5: the version 0 that came dirty is written back, too: noughts.
func TestVersionNoughtIsWrittenBack(t *testing.T) {
	j := of(2, 2, 4)
	for _, back := range []func(w *world){
		func(w *world) { backs(t, w.h, 1, 0) },
		func(w *world) { cleans(t, w.h, api.Left{Page: 1, Op: 1, PSN: 0}) },
		func(w *world) { fine(t, "Freeze", w.h.Freeze()) },
	} {
		w := begin(t, j)
		tear(t, w.d, j, 1, version(3, 3))
		takes(t, w.h, 1, 1, api.Exclusive, api.Version{}, true)
		back(w)
		stands(t, w.d, j, 1, api.Version{})
		cleans(t, w.h)
	}
}

// P17.5: what Free and Clean tell is the caller's: it stays as it was, and what becomes of it is nothing to the holder.
func TestWhatIsToldIsTheCallers(t *testing.T) {
	j := of(4, 2, 8)
	_, h := began(t, j)
	grants(t, h, 0, 1, api.Exclusive)
	grants(t, h, 1, 1, api.Exclusive)
	writes(t, h, 0, 1)
	writes(t, h, 1, 1)
	clean, _ := h.Clean()
	writes(t, h, 0, 2)
	gone, _ := h.Free(2)
	was := see(h)
	if want := []api.Left{{Page: 0, Op: 1, PSN: 1}, {Page: 1, Op: 1, PSN: 1}}; !slices.Equal(clean, want) {
		t.Errorf("%+v", clean)
	}
	for _, l := range [][]api.Left{clean, gone} {
		for n := range l {
			l[n] = api.Left{Page: 9, Op: 9, PSN: 9}
		}
		_ = append(l[:0], api.Left{Page: 8})
	}
	stays(t, "a list that is written over", h, was)
	writes(t, h, 1, 2)
	cleans(t, h, api.Left{Page: 1, Op: 1, PSN: 2})
}

// P17.5: Discard is layer 16's: how many marks go, of that page, up to that version, whatever number that is; log and device are not asked.
func TestDiscard(t *testing.T) {
	j := of(3, 3, 16)
	d, h := began(t, j)
	op := int64(0)
	for psn := range int64(3) {
		for number := range 2 {
			takes(t, h, number, op+1, api.Exclusive, api.Version{PSN: 10 * psn}, false)
			writes(t, h, number, 10*psn+1)
			yields(t, h, number, op+2, api.Frame{Page: number, Mode: api.Exclusive, Op: op + 1, First: 2*psn + int64(number) + 1, V: version(10*psn+1, int(16*(10*psn+1))+number), Dirty: true})
		}
		op += 2
	}
	l := []api.Mark{{Page: 0, PSN: 1, First: 1}, {Page: 0, PSN: 11, First: 3}, {Page: 0, PSN: 21, First: 5}, {Page: 1, PSN: 1, First: 2}, {Page: 1, PSN: 11, First: 4}, {Page: 1, PSN: 21, First: 6}}
	marked(t, h, l...)
	on := d.Copy()
	discards(t, h, 2, api.MaxStamp, 0)
	for _, psn := range []int64{0, -1, -1 << 63} {
		discards(t, h, 0, psn, 0)
	}
	marked(t, h, l...)
	discards(t, h, 0, 10, 1)
	marked(t, h, l[1:]...)
	discards(t, h, 0, 10, 0)
	discards(t, h, 1, 11, 2)
	marked(t, h, l[1], l[2], l[5])
	discards(t, h, 0, api.MaxStamp, 2)
	discards(t, h, 1, 1<<63-1, 1)
	marked(t, h)
	logged(t, h, j, 1, 7, 6)
	untouched(t, "Discard", d, on)
}
