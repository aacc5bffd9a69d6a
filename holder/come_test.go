package holder_test

import (
	"testing"

	"millpond/api"
	"millpond/area"
)

// P17.3: Grant of a page that no frame has: the version that stands in its place, not dirty, by that op and mode.
func TestGrantFromTheDevice(t *testing.T) {
	j := of(4, 4, 4)
	d, h := began(t, j)
	layPage(t, d, j, 1, version(1, 1))
	layPage(t, d, j, 3, version(api.MaxStamp, 2))
	was := d.Copy()
	grants(t, h, 3, api.MaxNumber, api.Exclusive)
	grants(t, h, 0, 1, api.Shared)
	grants(t, h, 1, 5, api.Exclusive)
	grants(t, h, 2, 1<<40, api.Shared)
	has(t, h,
		api.Frame{Page: 0, Mode: api.Shared, Op: 1},
		api.Frame{Page: 1, Mode: api.Exclusive, Op: 5, V: version(1, 1)},
		api.Frame{Page: 2, Mode: api.Shared, Op: 1 << 40},
		api.Frame{Page: 3, Mode: api.Exclusive, Op: api.MaxNumber, V: version(api.MaxStamp, 2)})
	untouched(t, "Grant", d, was)
	logged(t, h, j, 1, 1, 0)
	marked(t, h)
}

// held is a frame of each kind: shared, exclusive; clean, dirty by records here, dirty from elsewhere, both; by the op 5.
func held() []api.Frame {
	var l []api.Frame
	for _, mode := range []api.Mode{api.Shared, api.Exclusive} {
		l = append(l,
			api.Frame{Mode: mode, Op: 5},
			api.Frame{Mode: mode, Op: 5, V: version(4, 4)},
			api.Frame{Mode: mode, Op: 5, V: version(4, 4), Dirty: true},
			api.Frame{Mode: mode, Op: 5, V: version(4, 4), Dirty: true, First: 1},
			api.Frame{Mode: mode, Op: 5, V: version(1, 4), Dirty: true, First: 1},
		)
	}
	return l
}

// with lets a holder have a frame in its page's first place, as calls bring it there.
func with(t *testing.T, j api.Job, f api.Frame) *world {
	t.Helper()
	w := begin(t, j)
	switch {
	case f.First > 0:
		takes(t, w.h, f.Page, 1, api.Exclusive, api.Version{PSN: f.V.PSN - 1}, f.V.PSN%2 == 0)
		if _, e := w.h.Write(f.Page, f.V.Body); e != api.OK {
			t.Fatal(e)
		}
		grants(t, w.h, f.Page, f.Op, f.Mode)
	case f.V.PSN == 0:
		grants(t, w.h, f.Page, f.Op, f.Mode)
	default:
		takes(t, w.h, f.Page, f.Op, f.Mode, f.V, f.Dirty)
	}
	has(t, w.h, f)
	return w
}

// P17.3: Grant of a page that a frame has: by a greater op it has that op and mode, and stays else as it was; by the same, or a lower one, it is ErrState. Its place on the device is not asked.
func TestGrantOfWhatIsThere(t *testing.T) {
	j := of(3, 1, 4)
	for _, f := range held() {
		for _, mode := range []api.Mode{api.Shared, api.Exclusive} {
			w := with(t, j, f)
			tear(t, w.d, j, 0, version(9, 9))
			was := see(w.h)
			for op := int64(1); op <= 5; op++ {
				if e := w.h.Grant(0, op, mode); e != api.ErrState {
					t.Errorf("Grant by %d of %+v: %v", op, f, e)
				}
				stays(t, "Grant", w.h, was)
			}
			for _, op := range []int64{6, 8, api.MaxNumber} {
				grants(t, w.h, 0, op, mode)
				g := f
				g.Op, g.Mode = op, mode
				has(t, w.h, g)
			}
		}
	}
}

// P17.3: where no place is free Grant and Take are ErrFull of a page that no frame has; also where its place is torn.
func TestNoPlaceIsFree(t *testing.T) {
	for places := 1; places <= 4; places++ {
		j := of(6, places, 4)
		d, h := began(t, j)
		for number := range places {
			if number%2 == 0 {
				grants(t, h, number, 1, api.Shared)
			} else {
				takes(t, h, number, 1, api.Exclusive, version(2, 2), true)
			}
		}
		for range 2 {
			was := see(h)
			for number := places; number < 6; number++ {
				if e := h.Grant(number, 9, api.Shared); e != api.ErrFull {
					t.Errorf("Grant(%d): %v", number, e)
				}
				if e := h.Take(number, 9, api.Shared, version(3, 3), false); e != api.ErrFull {
					t.Errorf("Take(%d): %v", number, e)
				}
			}
			stays(t, "what is refused", h, was)
			tear(t, d, j, 5, version(9, 9))
		}
		grants(t, h, 0, 2, api.Exclusive) // what is there needs none
		takes(t, h, 0, 3, api.Shared, version(1, 1), false)
	}
}

// P17.3: a place that is not whole is ErrCorrupt, and no frame has the page then; another page's is nothing to it.
func TestGrantOfATornPlace(t *testing.T) {
	j := of(3, 3, 4)
	for _, change := range []func(w *world, at int){
		func(w *world, at int) { tear(t, w.d, j, 1, version(3, 3)) },
		func(w *world, at int) { lay(t, w.d, at+1, api.Sector{162, 1}) },
		func(w *world, at int) { lay(t, w.d, at, api.Sector{1}) },
		func(w *world, at int) { layPage(t, w.d, j, 1, version(3, 3)); tear(t, w.d, j, 1, version(4, 4)) },
		func(w *world, at int) { layPage(t, w.d, j, 1, version(3, 3)); lay(t, w.d, at+1, api.Sector{}) },
		func(w *world, at int) { // another page's, whole
			layPage(t, w.d, j, 2, version(3, 3))
			a, _ := w.d.Read(at + 2)
			b, _ := w.d.Read(at + 3)
			lay(t, w.d, at, a, b)
		},
	} {
		w := begin(t, j)
		at, _ := area.Page(j, 1)
		change(w, at)
		was := see(w.h)
		for _, mode := range []api.Mode{api.Shared, api.Exclusive} {
			if e := w.h.Grant(1, 1, mode); e != api.ErrCorrupt {
				t.Errorf("Grant: %v", e)
			}
			stays(t, "Grant", w.h, was)
		}
		grants(t, w.h, 0, 1, api.Shared)
		takes(t, w.h, 1, 1, api.Exclusive, version(5, 5), true) // what another node sent does not ask the place
		backs(t, w.h, 1, 5)
		stands(t, w.d, j, 1, version(5, 5))
	}
}

// P17.3: Take of a page that no frame has: just what is said, without a First.
func TestTakeOfWhatIsNotThere(t *testing.T) {
	j := of(4, 4, 4)
	d, h := began(t, j)
	layPage(t, d, j, 1, version(8, 8))
	was := d.Copy()
	takes(t, h, 1, 3, api.Shared, version(2, 2), false)
	takes(t, h, 0, 1, api.Exclusive, version(1, 1), true)
	takes(t, h, 3, api.MaxNumber, api.Shared, api.Version{}, true)
	takes(t, h, 2, 9, api.Exclusive, version(api.MaxStamp, 3), false)
	has(t, h,
		api.Frame{Page: 0, Mode: api.Exclusive, Op: 1, V: version(1, 1), Dirty: true},
		api.Frame{Page: 1, Mode: api.Shared, Op: 3, V: version(2, 2)},
		api.Frame{Page: 2, Mode: api.Exclusive, Op: 9, V: version(api.MaxStamp, 3)},
		api.Frame{Page: 3, Mode: api.Shared, Op: api.MaxNumber, Dirty: true})
	untouched(t, "Take", d, was)
	logged(t, h, j, 1, 1, 0)
	marked(t, h)
}

// P17.3: Take of a page that a frame has: by a greater op it has the version, the op and the mode; it is dirty, if that is said, or it was; First stays. By no greater one it is ErrState.
func TestTakeOfWhatIsThere(t *testing.T) {
	j := of(3, 1, 4)
	for _, f := range held() {
		for _, mode := range []api.Mode{api.Shared, api.Exclusive} {
			for _, dirty := range []bool{false, true} {
				for _, v := range []api.Version{{}, version(1, 1), version(4, 4), version(6, 6)} {
					w := with(t, j, f)
					was := see(w.h)
					for op := int64(1); op <= 5; op++ {
						if e := w.h.Take(0, op, mode, v, dirty); e != api.ErrState {
							t.Errorf("Take by %d of %+v: %v", op, f, e)
						}
						stays(t, "Take", w.h, was)
					}
					takes(t, w.h, 0, 6, mode, v, dirty)
					g := api.Frame{Page: 0, Mode: mode, Op: 6, First: f.First, V: v, Dirty: f.Dirty || dirty}
					has(t, w.h, g)
					takes(t, w.h, 0, 7, api.Shared, version(9, 9), false)
					g.Op, g.Mode, g.V = 7, api.Shared, version(9, 9)
					has(t, w.h, g)
				}
			}
		}
	}
}
