package pool_test

import (
	"math"
	"testing"

	"millpond/api"
	"millpond/pool"
)

// changed is a frame of the page 3 that may be, but for what is done to it.
func changed(do func(f *api.Frame)) api.Frame {
	f := rich(3, 4)
	do(&f)
	return f
}

// mayNot is frames that may not be, each by one field.
func mayNot() []api.Frame {
	var l []api.Frame
	for _, page := range fars {
		l = append(l, changed(func(f *api.Frame) { f.Page = page }))
	}
	for _, m := range []api.Mode{0, -1, 3, 1<<32 + 1, 1<<32 + 2, math.MaxInt, math.MinInt} {
		l = append(l, changed(func(f *api.Frame) { f.Mode = m }))
	}
	for _, op := range []int64{-1, api.MaxNumber + 1, math.MaxInt64, math.MinInt64} {
		l = append(l, changed(func(f *api.Frame) { f.Op = op }))
	}
	for _, n := range []int64{-1, api.MaxStamp + 1, 1 << 32, 1<<32 + 1, math.MaxInt64, math.MinInt64} {
		l = append(l, changed(func(f *api.Frame) { f.First = n }), changed(func(f *api.Frame) { f.V.PSN = n }))
	}
	for at := range api.BodySize {
		l = append(l, changed(func(f *api.Frame) { f.V = api.Version{}; f.V.Body[at] = 1 }))
	}
	return append(l, api.Frame{}, api.Frame{Page: 3})
}

// may is frames of the page 3 that may be, at the bounds of their fields.
func may() []api.Frame {
	l := []api.Frame{shared(3), rich(3, 1), rich(3, 2)}
	for _, m := range []api.Mode{api.Shared, api.Exclusive} {
		l = append(l, changed(func(f *api.Frame) { f.Mode = m }))
	}
	for _, op := range []int64{0, 1, 1 << 32, api.MaxNumber - 1, api.MaxNumber} {
		l = append(l, changed(func(f *api.Frame) { f.Op = op }))
	}
	for _, n := range []int64{1, api.MaxStamp - 1, api.MaxStamp} {
		l = append(l, changed(func(f *api.Frame) { f.First = n }), changed(func(f *api.Frame) { f.V.PSN = n }), changed(func(f *api.Frame) { f.V = api.Version{PSN: n} }))
	}
	return append(l, changed(func(f *api.Frame) { f.First = 0 }), changed(func(f *api.Frame) { f.V, f.Dirty = api.Version{}, true }), changed(func(f *api.Frame) { f.V, f.Dirty = api.Version{}, false }))
}

// P15.1: a frame that may be is there from then on, in a new place and in its own one, in all that it has.
func TestSetFrames(t *testing.T) {
	over := rich(3, 6)
	for _, f := range may() {
		p := made(t, 2)
		sets(t, p, f, api.OK)
		has(t, p, 1, f)
		q := made(t, 2)
		sets(t, q, over, api.OK)
		sets(t, q, f, api.OK)
		if has(t, q, 1, f); !pool.Same(p, q) {
			t.Errorf("%+v: another one over one that was there", f)
		}
		gets(t, q, f)
		drops(t, q, f)
	}
	for page := range api.MaxPages {
		p := made(t, 1)
		sets(t, p, rich(page, page), api.OK)
		has(t, p, 0, rich(page, page))
	}
}

// P15.1: a frame that may not be is ErrArg, ahead of ErrFull, and changes nothing: where its page has a frame, where a place is free, where none is.
func TestSetRefused(t *testing.T) {
	for _, p := range []*pool.Pool{made(t, 1), with(t, 2, 3), with(t, 1, 3), with(t, 1, 0), passed(t, 0, 3), passed(t, 0, 1)} {
		was := p.Copy()
		for _, f := range mayNot() {
			if sets(t, p, f, api.ErrArg); !pool.Same(p, was) {
				t.Fatalf("%+v changed something", f)
			}
		}
	}
}

// P15.1: where no place is free, a new page is ErrFull, pinned or not, used or not, and changes nothing; one that has a frame is set.
func TestSetFull(t *testing.T) {
	for places := 1; places < api.MaxFrames; places++ {
		p := made(t, places)
		for page := range places {
			sets(t, p, shared(page), api.OK)
		}
		for _, do := range []func(page int){func(int) { p.Victim() }, func(page int) { p.Pin(page) }, func(int) {}} {
			was := p.Copy()
			for page := places; page < api.MaxPages; page++ {
				if sets(t, p, rich(page, 1), api.ErrFull); !pool.Same(p, was) {
					t.Fatalf("the page %d changed something", page)
				}
			}
			for page := range places {
				sets(t, p, rich(page, 2), api.OK)
				do(page)
			}
		}
	}
}

// P15.1: a new page has the lowest place that is free, whatever the hand; it was used, and is not pinned. The places are seen by the victims.
func TestSetLowestPlace(t *testing.T) {
	p := passed(t, 10, 11, 12, 13)
	victims(t, p, 10)
	drops(t, p, shared(12), shared(10))
	sets(t, p, shared(5), api.OK)
	sets(t, p, shared(2), api.OK)
	has(t, p, 0, shared(2), shared(5), shared(11), shared(13))
	victims(t, p, 11, 13, 11, 2, 13, 5, 11) // 2 is in the place of 12, and both new ones were used
}

// P15.1: lowest, also where it is the last place, or the first one behind the hand.
func TestSetEachPlace(t *testing.T) {
	for free := range 4 {
		for behind := range 4 {
			p := passed(t, 0, 1, 2, 3)
			for page := range behind {
				victims(t, p, page)
			}
			drops(t, p, shared(free))
			sets(t, p, shared(9), api.OK)
			pins(t, p, 9)
			unpins(t, p, 9)
			q := passed(t, 0, 1, 2, 3)
			for page := range behind {
				victims(t, q, page)
			}
			gets(t, q, shared(free))
			names := []int{0, 1, 2, 3}
			names[free] = 9
			for range 9 {
				a, _ := p.Victim()
				b, _ := q.Victim()
				if a != names[b] {
					t.Fatalf("the place %d, the hand at %d: %d, not %d", free, behind, a, names[b])
				}
			}
		}
	}
}

// P15.1: a page that has a frame keeps its place and its pins, and was used.
func TestSetOver(t *testing.T) {
	p := passed(t, 7, 8, 9)
	pins(t, p, 8, 8, 8)
	drops(t, p, shared(7))
	sets(t, p, rich(8, 3), api.OK)
	has(t, p, 1, rich(8, 3), shared(9))
	if p.Pins(8) != 3 {
		t.Errorf("%d pins", p.Pins(8))
	}
	unpins(t, p, 8, 8, 8)
	victims(t, p, 9, 8, 9)

	p = passed(t, 7, 8, 9)
	sets(t, p, shared(7), api.OK) // the same frame is a use, too
	victims(t, p, 8, 9, 7)
}

// P15.1: a new page is not pinned and was used, where one was dropped that was pinned and not used.
func TestSetBehindDrop(t *testing.T) {
	p := passed(t, 7, 8)
	pins(t, p, 7, 7)
	drops(t, p, shared(7))
	sets(t, p, shared(3), api.OK)
	if p.Pins(3) != 0 || p.Unpin(3) != api.ErrNone {
		t.Error("pinned")
	}
	victims(t, p, 8, 3)
}

// P15.1, P15.2: what was handed in, and what was told, stays as it was.
func TestFramesAreTheCallers(t *testing.T) {
	p := made(t, 2)
	f := rich(5, 1)
	sets(t, p, f, api.OK)
	f.V.Body[0], f.Dirty, f.Op = 99, !f.Dirty, 99
	has(t, p, 1, rich(5, 1))
	got, _ := p.Get(5)
	looked, _ := p.Look(5)
	sets(t, p, rich(5, 2), api.OK)
	if got != rich(5, 1) || looked != rich(5, 1) {
		t.Errorf("%+v, %+v", got, looked)
	}
	got.V.Body[1], looked.V.PSN = 98, 98
	has(t, p, 1, rich(5, 2))
	dropped, _ := p.Drop(5)
	sets(t, p, rich(5, 3), api.OK)
	if dropped != rich(5, 2) {
		t.Errorf("%+v", dropped)
	}
}
