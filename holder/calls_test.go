package holder_test

import (
	"slices"
	"testing"

	"millpond/api"
	"millpond/holder"
)

// asked is what a call may name.
type asked struct {
	page  int
	op    int64
	mode  api.Mode
	v     api.Version
	dirty bool
	psn   int64
}

// call tells its error, and whether all else that it answers is zero.
type call struct {
	name                    string
	page, op, mode, version bool // does it name them?
	writes                  bool // may it write on the device?
	do                      func(h *holder.Holder, a asked) (bool, api.Errno)
}

func calls() []call {
	return []call{
		{"Read", true, false, false, false, false, func(h *holder.Holder, a asked) (bool, api.Errno) {
			v, e := h.Read(a.page)
			return v == api.Version{}, e
		}},
		{"Write", true, false, false, false, false, func(h *holder.Holder, a asked) (bool, api.Errno) {
			v, e := h.Write(a.page, a.v.Body)
			return v == api.Version{}, e
		}},
		{"Free", true, false, false, false, true, func(h *holder.Holder, a asked) (bool, api.Errno) {
			l, e := h.Free(a.page)
			return len(l) == 0, e
		}},
		{"Grant", true, true, true, false, false, func(h *holder.Holder, a asked) (bool, api.Errno) {
			return true, h.Grant(a.page, a.op, a.mode)
		}},
		{"Take", true, true, true, true, false, func(h *holder.Holder, a asked) (bool, api.Errno) {
			return true, h.Take(a.page, a.op, a.mode, a.v, a.dirty)
		}},
		{"Share", true, true, false, false, true, func(h *holder.Holder, a asked) (bool, api.Errno) {
			f, e := h.Share(a.page, a.op)
			return f == api.Frame{}, e
		}},
		{"Yield", true, true, false, false, true, func(h *holder.Holder, a asked) (bool, api.Errno) {
			f, e := h.Yield(a.page, a.op)
			return f == api.Frame{}, e
		}},
		{"Drop", true, true, false, false, false, func(h *holder.Holder, a asked) (bool, api.Errno) {
			gone, e := h.Drop(a.page, a.op)
			return !gone, e
		}},
		{"Back", true, false, false, false, true, func(h *holder.Holder, a asked) (bool, api.Errno) {
			psn, e := h.Back(a.page)
			return psn == 0, e
		}},
		{"Clean", false, false, false, false, true, func(h *holder.Holder, a asked) (bool, api.Errno) {
			l, e := h.Clean()
			return len(l) == 0, e
		}},
		{"Discard", true, false, false, false, false, func(h *holder.Holder, a asked) (bool, api.Errno) {
			n, e := h.Discard(a.page, a.psn)
			return n == 0, e
		}},
		{"Sync", false, false, false, false, true, func(h *holder.Holder, a asked) (bool, api.Errno) { return true, h.Sync() }},
		{"Cut", false, false, false, false, true, func(h *holder.Holder, a asked) (bool, api.Errno) { return true, h.Cut() }},
		{"Freeze", false, false, false, false, true, func(h *holder.Holder, a asked) (bool, api.Errno) { return true, h.Freeze() }},
	}
}

// Which calls: all of them, or those that name something.
func each(call) bool           { return true }
func namePages(c call) bool    { return c.page }
func nameOps(c call) bool      { return c.op }
func nameModes(c call) bool    { return c.mode }
func nameVersions(c call) bool { return c.version }

// tell fails unless those calls tell that error, with zeros beside it, and leave the holder as it was.
func tell(t *testing.T, which func(call) bool, wrong api.Errno, h *holder.Holder, a asked) {
	t.Helper()
	was := see(h)
	for _, c := range calls() {
		if !which(c) {
			continue
		}
		if zero, e := c.do(h, a); !zero || e != wrong {
			t.Errorf("%s(%+v): %v, not %v; zeros beside it: %v", c.name, a, e, wrong, zero)
		}
		stays(t, c.name, h, was)
	}
}

// may fails if one of those calls tells ErrArg; whatever else they tell.
func may(t *testing.T, which func(call) bool, begin func() *holder.Holder, a asked) {
	t.Helper()
	for _, c := range calls() {
		if !which(c) {
			continue
		}
		if _, e := c.do(begin(), a); e == api.ErrArg || e == api.ErrNil {
			t.Errorf("%s(%+v): %v", c.name, a, e)
		}
	}
}

// P17.1 to P17.7: a nil holder and a zero one are ErrNil in each call, whatever else is wrong; looking tells nothing.
func TestNoHolder(t *testing.T) {
	for _, h := range []*holder.Holder{nil, new(holder.Holder)} {
		for _, n := range append([]int64{0, 1, 15, 16, api.MaxNumber}, far...) {
			for _, mode := range []api.Mode{0, api.Shared, api.Exclusive, api.Mode(n)} {
				tell(t, each, api.ErrNil, h, asked{page: int(n), op: n, mode: mode, v: version(n, 7), dirty: n > 0, psn: n})
				tell(t, each, api.ErrNil, h, asked{op: n, mode: mode, v: version(1, 7), psn: n})
			}
			if f, is := h.Look(int(n)); f != (api.Frame{}) || is {
				t.Errorf("Look(%d): %+v, %v", n, f, is)
			}
		}
		if h.Room() != 0 || h.Start() != 0 || h.Next() != 0 || h.Flushed() != 0 {
			t.Error("a log of none", h.Room(), h.Start(), h.Next(), h.Flushed())
		}
		frames, marks := h.Frames(), h.Marks()
		if frames == nil || marks == nil {
			t.Fatal("nothing to go over")
		}
		for range 2 {
			for f := range frames {
				t.Error("a frame of none", f)
			}
			for m := range marks {
				t.Error("a mark of none", m)
			}
		}
	}
}

// busy is a fenced holder of three places, of six pages, with a log that is full: each error that stands behind ErrArg could be told. The page 0 is dirty, 1 is held shared, 2 is at the greatest PSN, the others are not held.
func busy(t *testing.T) (api.Job, *holder.Holder) {
	t.Helper()
	j := of(6, 3, 2)
	d, h := began(t, j)
	grants(t, h, 0, 5, api.Exclusive)
	writes(t, h, 0, 1)
	writes(t, h, 0, 2)
	grants(t, h, 1, 5, api.Shared)
	takes(t, h, 2, 5, api.Exclusive, version(api.MaxStamp, 9), true)
	tear(t, d, j, 4, version(3, 3))
	d.Up(0)
	return j, h
}

// P17.2 to P17.5: pages at their bounds and just beyond, of jobs of few pages and of the most; ErrArg ahead of all but ErrNil.
func TestPagesThatMayBe(t *testing.T) {
	for _, pages := range []int{1, 2, 3, 6, api.MaxPages} {
		begin := func() *holder.Holder {
			_, h := began(t, of(pages, 1, 2))
			return h
		}
		a := asked{op: 1, mode: api.Shared, v: version(1, 1)}
		for number := range pages {
			a.page = number
			may(t, namePages, begin, a)
		}
		h := begin()
		grants(t, h, 0, 1, api.Exclusive)
		writes(t, h, 0, 1)
		for _, n := range append([]int64{int64(pages), int64(pages) + 1, api.MaxPages, api.MaxPages + 1}, far...) {
			a.page = int(n)
			tell(t, namePages, api.ErrArg, h, a)
		}
	}
	_, h := busy(t)
	for _, number := range []int{-1, 6, 7, 15, 16} {
		tell(t, namePages, api.ErrArg, h, asked{page: number, op: 9, mode: api.Shared})
		tell(t, namePages, api.ErrArg, h, asked{page: number})
	}
}

// P17.3, P17.4: ops from 1 to MaxNumber; ErrArg ahead of all but ErrNil: of pages that are held, and of those that are not.
func TestOpsThatMayBe(t *testing.T) {
	begin := func() *holder.Holder {
		_, h := began(t, of(2, 1, 2))
		return h
	}
	for _, op := range []int64{1, 2, api.MaxStamp + 1, api.MaxNumber - 1, api.MaxNumber} {
		may(t, nameOps, begin, asked{op: op, mode: api.Exclusive, v: version(1, 1)})
	}
	j, h := busy(t)
	isOp := func(op int64) bool { return op >= 1 && op <= api.MaxNumber }
	for _, op := range slices.DeleteFunc(append([]int64{0, api.MaxNumber + 1}, far...), isOp) {
		for number := range j.Pages {
			tell(t, nameOps, api.ErrArg, h, asked{page: number, op: op, mode: api.Shared, v: version(1, 1)})
		}
	}
}

// P17.3: modes.
func TestModesThatMayBe(t *testing.T) {
	begin := func() *holder.Holder {
		_, h := began(t, of(2, 1, 2))
		return h
	}
	for _, mode := range []api.Mode{api.Shared, api.Exclusive} {
		may(t, nameModes, begin, asked{op: 1, mode: mode, v: version(1, 1)})
	}
	j, h := busy(t)
	for _, mode := range append([]int64{0, 3}, far...) {
		for number := range j.Pages {
			tell(t, nameModes, api.ErrArg, h, asked{page: number, op: 9, mode: api.Mode(mode), v: version(1, 1)})
		}
	}
}

// P17.3: versions, whose PSN is from 0 to MaxStamp, of noughts if it is 0.
func TestVersionsThatMayBe(t *testing.T) {
	begin := func() *holder.Holder {
		_, h := began(t, of(2, 1, 2))
		return h
	}
	for _, v := range []api.Version{{}, {PSN: 1}, version(1, 1), version(api.MaxStamp-1, 2), version(api.MaxStamp, 3), {PSN: api.MaxStamp}} {
		for _, dirty := range []bool{false, true} {
			may(t, nameVersions, begin, asked{op: 1, mode: api.Shared, v: v, dirty: dirty})
			h := begin()
			takes(t, h, 1, 1, api.Shared, v, dirty)
			has(t, h, api.Frame{Page: 1, Mode: api.Shared, Op: 1, V: v, Dirty: dirty})
		}
	}
	j, h := busy(t)
	wrong := []api.Version{version(0, 1), {Body: api.Body{95: 1}}, version(api.MaxStamp+1, 1), {PSN: api.MaxStamp + 1}}
	for _, psn := range far {
		wrong = append(wrong, version(psn, 1), api.Version{PSN: psn})
	}
	for _, v := range wrong {
		for number := range j.Pages {
			tell(t, nameVersions, api.ErrArg, h, asked{page: number, op: 9, mode: api.Shared, v: v})
		}
	}
}

// P17.2 to P17.5: behind ErrArg those that are said, ahead of ErrFenced; and who is fenced is told so.
func TestTheOrderOfErrors(t *testing.T) {
	_, h := busy(t)
	named := func(names ...string) func(call) bool {
		return func(c call) bool {
			for _, name := range names {
				if c.name == name {
					return true
				}
			}
			return false
		}
	}
	low := asked{op: 4, mode: api.Shared, v: version(1, 1)}
	same := asked{op: 5, mode: api.Exclusive, v: version(1, 1)}
	high := asked{op: 6, mode: api.Exclusive, v: version(1, 1)}
	on := func(a asked, page int) asked {
		a.page = page
		return a
	}
	for _, page := range []int{3, 4, 5} { // none of them is held, and no place is free
		for _, a := range []asked{low, same, high} {
			tell(t, named("Read", "Write", "Share", "Yield", "Back"), api.ErrNone, h, on(a, page))
			tell(t, named("Grant", "Take"), api.ErrFull, h, on(a, page)) // of the torn page 4 too
			tell(t, named("Drop", "Discard"), api.OK, h, on(a, page))
		}
	}
	for _, page := range []int{0, 1, 2} {
		for _, a := range []asked{low, same} {
			tell(t, named("Grant", "Take"), api.ErrState, h, on(a, page))
			tell(t, named("Share", "Yield"), api.ErrNone, h, on(a, page))
			tell(t, named("Drop"), api.OK, h, on(a, page)) // also of what is dirty
		}
		tell(t, named("Share", "Yield", "Sync", "Cut", "Clean", "Freeze"), api.ErrFenced, h, on(high, page))
	}
	for _, page := range []int{0, 2} {
		tell(t, named("Drop"), api.ErrState, h, on(high, page))
		tell(t, named("Back"), api.ErrFenced, h, on(high, page))
		tell(t, named("Write"), api.ErrFull, h, on(high, page))
	}
	tell(t, named("Write"), api.ErrNone, h, on(high, 1))
	tell(t, named("Free"), api.ErrFenced, h, on(high, 5)) // its victim is the page 0
}
