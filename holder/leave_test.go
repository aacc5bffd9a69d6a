package holder_test

import (
	"testing"

	"millpond/api"
	"millpond/holder"
)

// P17.3: Free where a frame has the page, or a place is free: nothing goes, nothing is written, and no hand moves.
func TestFreeWhereThereIsRoom(t *testing.T) {
	j := of(5, 3, 4)
	d, h := began(t, j)
	grants(t, h, 0, 1, api.Exclusive)
	writes(t, h, 0, 1)
	was, on := see(h), d.Copy()
	for range 2 {
		for number := range 5 {
			frees(t, h, number)
		}
		stays(t, "Free", h, was)
		untouched(t, "Free", d, on)
	}
	grants(t, h, 1, 1, api.Shared)
	grants(t, h, 2, 1, api.Shared)
	was = see(h)
	for number := range 3 {
		frees(t, h, number)
	}
	stays(t, "Free of what a frame has", h, was)
	frees(t, h, 4, api.Left{Page: 0, Op: 1, PSN: 1, Gone: true}) // the hand was at the first place yet
}

// P17.3: where there is no room the victim goes: one that is dirty is written back ahead of that, one that is not is not.
func TestFreeOfAVictim(t *testing.T) {
	j := of(3, 1, 4)
	for _, f := range held() {
		w := with(t, j, f)
		was := w.d.Copy()
		left := api.Left{Page: 0, Op: 5, Gone: true}
		if f.Dirty {
			left.PSN = f.V.PSN
		}
		frees(t, w.h, 2, left)
		has(t, w.h)
		marked(t, w.h)
		if !f.Dirty {
			untouched(t, "Free of what is not dirty", w.d, was)
			continue
		}
		stands(t, w.d, j, 0, f.V)
		if w.h.Flushed() != w.h.Next()-1 || w.d.Done() != was.Done()+2+2*(w.h.Next()-1) {
			t.Errorf("%+v: flushed up to %d of %d, %d things are done", f, w.h.Flushed(), w.h.Next(), w.d.Done()-was.Done())
		}
		grants(t, w.h, 0, 1, api.Shared) // by whatever op, since the page was given up
		reads(t, w.h, 0, f.V)
	}
}

// P17.3: the pool's victims, one behind the other; the others stay as they are.
func TestFreeOverAndOver(t *testing.T) {
	j := of(6, 3, 8)
	d, h := began(t, j)
	for number := range 3 {
		grants(t, h, number, int64(number)+1, api.Exclusive)
		writes(t, h, number, 1)
	}
	frees(t, h, 3, api.Left{Page: 0, Op: 1, PSN: 1, Gone: true})
	logged(t, h, j, 1, 4, 3)
	has(t, h,
		api.Frame{Page: 1, Mode: api.Exclusive, Op: 2, First: 2, V: version(1, 17), Dirty: true},
		api.Frame{Page: 2, Mode: api.Exclusive, Op: 3, First: 3, V: version(1, 18), Dirty: true})
	frees(t, h, 3)
	grants(t, h, 3, 1, api.Shared)
	frees(t, h, 4, api.Left{Page: 1, Op: 2, PSN: 1, Gone: true})
	grants(t, h, 4, 1, api.Shared)
	backs(t, h, 2, 1) // that is a use of it
	frees(t, h, 5, api.Left{Page: 2, Op: 3, PSN: 0, Gone: true})
	frees(t, h, 5)
	stands(t, d, j, 0, version(1, 16))
	stands(t, d, j, 1, version(1, 17))
	stands(t, d, j, 2, version(1, 18))
}

// P17.4: Share and Yield of a page that is not held by a lower op are ErrNone, Drop is false, and nothing is done, not even in the log.
func TestNotHeldByALowerOp(t *testing.T) {
	j := of(3, 1, 4)
	for _, f := range held() {
		w := with(t, j, f)
		was, on := see(w.h), w.d.Copy()
		for _, a := range []asked{{page: 0, op: 1}, {page: 0, op: 4}, {page: 0, op: 5}, {page: 1, op: 9}, {page: 2, op: api.MaxNumber}} {
			if g, e := w.h.Share(a.page, a.op); g != (api.Frame{}) || e != api.ErrNone {
				t.Errorf("Share(%d, %d): %+v, %v", a.page, a.op, g, e)
			}
			if g, e := w.h.Yield(a.page, a.op); g != (api.Frame{}) || e != api.ErrNone {
				t.Errorf("Yield(%d, %d): %+v, %v", a.page, a.op, g, e)
			}
			drops(t, w.h, a.page, a.op, false)
		}
		stays(t, "what is not held so", w.h, was)
		untouched(t, "what is not held so", w.d, on)
	}
}

// P17.4: Share: the log is flushed, the frame has that op and is shared; it stays as dirty as it was, and no mark is made.
func TestShare(t *testing.T) {
	j := of(3, 1, 4)
	for _, f := range held() {
		w := with(t, j, f)
		was := w.d.Copy()
		for _, op := range []int64{6, 7, api.MaxNumber} {
			g := f
			g.Op, g.Mode = op, api.Shared
			shares(t, w.h, 0, op, g)
			has(t, w.h, g)
			marked(t, w.h)
		}
		if w.h.Flushed() != w.h.Next()-1 || w.d.Done() != was.Done()+2*w.h.Flushed() {
			t.Errorf("%+v: flushed up to %d of %d, %d things are done", f, w.h.Flushed(), w.h.Next(), w.d.Done()-was.Done())
		}
		stands(t, w.d, j, 0, api.Version{})
	}
}

// P17.4: Yield: the log is flushed; the frame goes, as it was; a mark stays, where it is dirty by records of this log, and not where it is clean, or dirty from elsewhere alone.
func TestYield(t *testing.T) {
	j := of(3, 1, 4)
	for _, f := range held() {
		for _, op := range []int64{6, api.MaxNumber} {
			w := with(t, j, f)
			was := w.d.Copy()
			yields(t, w.h, 0, op, f)
			has(t, w.h)
			if f.First > 0 {
				marked(t, w.h, api.Mark{Page: 0, PSN: f.V.PSN, First: f.First})
			} else {
				marked(t, w.h)
			}
			if w.h.Flushed() != w.h.Next()-1 || w.d.Done() != was.Done()+2*w.h.Flushed() {
				t.Errorf("%+v: flushed up to %d of %d, %d things are done", f, w.h.Flushed(), w.h.Next(), w.d.Done()-was.Done())
			}
			stands(t, w.d, j, 0, api.Version{})
			if g, e := w.h.Yield(0, op); g != (api.Frame{}) || e != api.ErrNone {
				t.Errorf("once more: %+v, %v", g, e)
			}
			grants(t, w.h, 1, 1, api.Shared) // its place is free
		}
	}
}

// P17.4: Share and Yield flush the whole log, also of a page that no record is of.
func TestSharingFlushesTheWholeLog(t *testing.T) {
	j := of(3, 3, 4)
	for _, leave := range []func(h *holder.Holder, page int, op int64) (api.Frame, api.Errno){(*holder.Holder).Share, (*holder.Holder).Yield} {
		w := begin(t, j)
		grants(t, w.h, 0, 1, api.Exclusive)
		grants(t, w.h, 1, 1, api.Shared)
		writes(t, w.h, 0, 1)
		writes(t, w.h, 0, 2)
		if f, e := leave(w.h, 1, 2); f.Page != 1 || f.Op == 0 || e != api.OK {
			t.Errorf("%+v, %v", f, e)
		}
		logged(t, w.h, j, 1, 3, 2)
		recorded(t, w.d, j, 0, 1, api.Mark{Page: 0, PSN: 1}, api.Mark{Page: 0, PSN: 2})
		marked(t, w.h)
	}
}

// P17.4: marks of a page that goes to and fro: each with the First of its time here, and none of a time in which it was not written here.
func TestMarksOfAPageThatComesBack(t *testing.T) {
	j := of(2, 2, 8)
	_, h := began(t, j)
	var want []api.Mark
	for time := range int64(3) {
		op, psn, first := 10*time, 10*time, 2*time+1
		v := api.Version{PSN: psn}
		takes(t, h, 0, op+1, api.Exclusive, v, psn > 0)
		writes(t, h, 0, psn+1)
		v = writes(t, h, 0, psn+2)
		yields(t, h, 0, op+2, api.Frame{Page: 0, Mode: api.Exclusive, Op: op + 1, First: first, V: v, Dirty: true})
		want = append(want, api.Mark{Page: 0, PSN: psn + 2, First: first})
		marked(t, h, want...)

		v = version(psn+3, 1)
		takes(t, h, 0, op+3, api.Exclusive, v, true)
		yields(t, h, 0, op+4, api.Frame{Page: 0, Mode: api.Exclusive, Op: op + 3, V: v, Dirty: true})
		takes(t, h, 0, op+5, api.Shared, v, false)
		drops(t, h, 0, op+6, true)
		marked(t, h, want...)
	}
	logged(t, h, j, 1, 7, 6)
}

// P17.4: a version 0 that another node sent in place of what was written here leaves no mark, as there is none of PSN 0; it goes all the same.
func TestYieldOfVersionNought(t *testing.T) {
	j := of(1, 1, 4)
	_, h := began(t, j)
	grants(t, h, 0, 1, api.Exclusive)
	writes(t, h, 0, 1)
	takes(t, h, 0, 2, api.Exclusive, api.Version{}, false)
	yields(t, h, 0, 3, api.Frame{Page: 0, Mode: api.Exclusive, Op: 2, First: 1, Dirty: true})
	has(t, h)
	marked(t, h)
}

// P17.4: Drop: what is dirty stays, and is told; what is not goes; the log and the device are not asked.
func TestDrop(t *testing.T) {
	j := of(3, 2, 4)
	for _, f := range held() {
		for _, op := range []int64{6, api.MaxNumber} {
			w := with(t, j, f)
			grants(t, w.h, 1, 1, api.Exclusive)
			writes(t, w.h, 1, 1) // stands in memory
			was, on := see(w.h), w.d.Copy()
			gone, e := w.h.Drop(0, op)
			untouched(t, "Drop", w.d, on)
			if f.Dirty {
				if gone || e != api.ErrState {
					t.Errorf("%+v: %v, %v", f, gone, e)
				}
				stays(t, "Drop of what is dirty", w.h, was)
				backs(t, w.h, 0, f.V.PSN)
				drops(t, w.h, 0, op, true)
			} else if !gone || e != api.OK {
				t.Errorf("%+v: %v, %v", f, gone, e)
			}
			has(t, w.h, was.frames[1:]...)
			marked(t, w.h)
			drops(t, w.h, 0, op, false)
		}
	}
}
