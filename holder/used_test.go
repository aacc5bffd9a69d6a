package holder_test

import (
	"testing"

	"millpond/api"
	"millpond/holder"
)

// swept is a holder of three places with the pages 1, 2 and 3, by the op 5, of which the page 1 is what is said, and the hand stands at it. None but the page 3 was used since the hand passed it: the next victim is the page 1, but the page 2, if the page 1 is used.
func swept(t *testing.T, log int, one func(h *holder.Holder)) *world {
	t.Helper()
	j := of(5, 3, log)
	w := begin(t, j)
	grants(t, w.h, 0, 5, api.Shared)
	one(w.h)
	grants(t, w.h, 2, 5, api.Shared)
	frees(t, w.h, 3, api.Left{Page: 0, Op: 5, Gone: true})
	grants(t, w.h, 3, 5, api.Shared)
	return w
}

// P17.2 to P17.7: which calls use a frame: Read, and whatever changes it; and which do not: looking, what is refused, and what changes nothing. The next victim tells.
func TestWhatIsAUse(t *testing.T) {
	shared := func(h *holder.Holder) { grants(t, h, 1, 5, api.Shared) }
	exclusive := func(h *holder.Holder) { grants(t, h, 1, 5, api.Exclusive) }
	dirty := func(h *holder.Holder) {
		exclusive(h)
		writes(t, h, 1, 1)
	}
	full := func(h *holder.Holder) {
		dirty(h)
		writes(t, h, 1, 2)
	}
	for _, c := range []struct {
		name string
		one  func(h *holder.Holder)
		do   func(h *holder.Holder)
		used bool
	}{
		{"nothing", shared, func(h *holder.Holder) {}, false},
		{"Read", shared, func(h *holder.Holder) { h.Read(1) }, true},
		{"Write", exclusive, func(h *holder.Holder) { writes(t, h, 1, 1) }, true},
		{"Write that is refused", shared, func(h *holder.Holder) { h.Write(1, body(1)) }, false},
		{"Write of a full log", full, func(h *holder.Holder) { h.Write(1, body(1)) }, false},
		{"Grant", shared, func(h *holder.Holder) { grants(t, h, 1, 6, api.Shared) }, true},
		{"Grant that is refused", shared, func(h *holder.Holder) { h.Grant(1, 5, api.Shared) }, false},
		{"Take", shared, func(h *holder.Holder) { takes(t, h, 1, 6, api.Shared, version(3, 3), false) }, true},
		{"Take that is refused", shared, func(h *holder.Holder) { h.Take(1, 5, api.Shared, version(3, 3), false) }, false},
		{"Share", exclusive, func(h *holder.Holder) { h.Share(1, 6) }, true},
		{"Share that is refused", exclusive, func(h *holder.Holder) { h.Share(1, 5) }, false},
		{"Yield that is refused", exclusive, func(h *holder.Holder) { h.Yield(1, 5) }, false},
		{"Drop by a greater one", dirty, func(h *holder.Holder) { h.Drop(1, 6) }, false},
		{"Drop by no greater one", shared, func(h *holder.Holder) { h.Drop(1, 5) }, false},
		{"Back", dirty, func(h *holder.Holder) { backs(t, h, 1, 1) }, true},
		{"Back of what is not dirty", exclusive, func(h *holder.Holder) { backs(t, h, 1, 0) }, false},
		{"Clean", dirty, func(h *holder.Holder) { cleans(t, h, api.Left{Page: 1, Op: 5, PSN: 1}) }, true},
		{"Clean of none", exclusive, func(h *holder.Holder) { cleans(t, h) }, false},
		{"Discard", dirty, func(h *holder.Holder) { h.Discard(1, 9) }, false},
		{"Sync", dirty, func(h *holder.Holder) { h.Sync() }, false},
		{"Cut", dirty, func(h *holder.Holder) { h.Cut() }, false},
		{"Free of what is there", shared, func(h *holder.Holder) { frees(t, h, 1) }, false},
		{"Look", shared, func(h *holder.Holder) { h.Look(1) }, false},
		{"Frames and Marks", dirty, func(h *holder.Holder) { see(h) }, false},
		{"Read of another page", shared, func(h *holder.Holder) { h.Read(3) }, false},
	} {
		w := swept(t, 2, c.one)
		c.do(w.h)
		f, _ := w.h.Look(1)
		want := api.Left{Page: 1, Op: f.Op, Gone: true}
		if f.Dirty {
			want.PSN = f.V.PSN
		}
		if c.used {
			want = api.Left{Page: 2, Op: 5, Gone: true}
		}
		if l, e := w.h.Free(4); len(l) != 1 || l[0] != want || e != api.OK {
			t.Errorf("%s: %+v, %v; not %+v", c.name, l, e, want)
		}
	}
}
