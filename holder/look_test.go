package holder_test

import (
	"iter"
	"slices"
	"testing"

	"millpond/api"
	"millpond/holder"
)

// rich is a holder of three frames, which came in no order, and four marks.
func rich(t *testing.T) *world {
	t.Helper()
	j := of(8, 4, 8)
	w := begin(t, j)
	for _, number := range []int{6, 2, 4} {
		for time := range int64(1 + number%4/2) { // the pages 6 and 2 twice
			takes(t, w.h, number, 10*time+1, api.Exclusive, api.Version{PSN: 10 * time}, false)
			writes(t, w.h, number, 10*time+1)
			f, _ := w.h.Look(number)
			yields(t, w.h, number, 10*time+2, f)
		}
	}
	grants(t, w.h, 7, 3, api.Shared)
	takes(t, w.h, 1, 4, api.Exclusive, version(5, 5), true)
	grants(t, w.h, 3, 5, api.Exclusive)
	writes(t, w.h, 3, 1)
	return w
}

// all of them: what rich has.
func framesOfRich() []api.Frame {
	return []api.Frame{
		{Page: 1, Mode: api.Exclusive, Op: 4, V: version(5, 5), Dirty: true},
		{Page: 3, Mode: api.Exclusive, Op: 5, First: 6, V: version(1, 19), Dirty: true},
		{Page: 7, Mode: api.Shared, Op: 3},
	}
}

func marksOfRich() []api.Mark {
	return []api.Mark{{Page: 2, PSN: 1, First: 3}, {Page: 2, PSN: 11, First: 4}, {Page: 4, PSN: 1, First: 5}, {Page: 6, PSN: 1, First: 1}, {Page: 6, PSN: 11, First: 2}}
}

// changes are what a holder does beside looking.
func changes(t *testing.T) []func(h *holder.Holder) {
	return []func(h *holder.Holder){
		func(h *holder.Holder) { h.Freeze() },
		func(h *holder.Holder) { h.Clean() },
		func(h *holder.Holder) { h.Back(3) },
		func(h *holder.Holder) { h.Write(3, body(77)) },
		func(h *holder.Holder) { h.Grant(0, 8, api.Shared); h.Grant(5, 8, api.Shared) },
		func(h *holder.Holder) { h.Take(7, 9, api.Exclusive, version(8, 8), true) },
		func(h *holder.Holder) { h.Share(1, 9); h.Yield(3, 9) },
		func(h *holder.Holder) { h.Drop(7, 9); h.Yield(1, 9) },
		func(h *holder.Holder) { h.Discard(2, 11); h.Discard(6, 1) },
		func(h *holder.Holder) { h.Discard(4, 1); h.Grant(0, 1, api.Shared); h.Free(5) },
	}
}

// leaves fails unless these are gone over, however early one leaves, and again, and within itself.
func leaves[T comparable](t *testing.T, all iter.Seq[T], want []T) {
	t.Helper()
	for many := 1; many <= len(want)+1; many++ {
		var got []T
		for x := range all {
			if got = append(got, x); len(got) == many {
				break
			}
		}
		if !slices.Equal(got, want[:min(many, len(want))]) {
			t.Fatalf("left behind %d: %+v", many, got)
		}
		if got := slices.Collect(all); !slices.Equal(got, want) {
			t.Fatalf("gone over again: %+v", got)
		}
	}
	times := 0
	for range all {
		for x := range all {
			if x != want[times%len(want)] {
				t.Fatalf("within itself: %+v", x)
			}
			times++
		}
	}
	if times != len(want)*len(want) {
		t.Fatal(times)
	}
}

// P17.7: Frames by rising pages, Marks in their order; left at each of them, and gone over again.
func TestFramesAndMarks(t *testing.T) {
	w := rich(t)
	has(t, w.h, framesOfRich()...)
	marked(t, w.h, marksOfRich()...)
	leaves(t, w.h.Frames(), framesOfRich())
	leaves(t, w.h.Marks(), marksOfRich())
}

// P17.7: as they are when they are called: whatever becomes of the holder behind that, ahead of going over them, or while one does.
func TestFramesAndMarksAsTheyWere(t *testing.T) {
	for n, change := range changes(t) {
		w := rich(t)
		frames, marks := w.h.Frames(), w.h.Marks()
		was := see(w.h)
		change(w.h)
		if now := see(w.h); slices.Equal(now.frames, was.frames) && slices.Equal(now.marks, was.marks) {
			t.Fatalf("the change %d is none", n)
		}
		leaves(t, frames, framesOfRich())
		leaves(t, marks, marksOfRich())

		w = rich(t)
		frames, marks = w.h.Frames(), w.h.Marks()
		var f []api.Frame
		var m []api.Mark
		for x := range frames {
			f = append(f, x)
			change(w.h)
		}
		for x := range marks {
			m = append(m, x)
			change(w.h)
		}
		if !slices.Equal(f, framesOfRich()) || !slices.Equal(m, marksOfRich()) {
			t.Errorf("the change %d: %+v, %+v", n, f, m)
		}
	}
}

// P17.7: looking changes nothing.
func TestLookingChangesNothing(t *testing.T) {
	w := rich(t)
	was, on := see(w.h), w.d.Copy()
	for number := -1; number <= api.MaxPages; number++ {
		w.h.Look(number)
	}
	see(w.h)
	stays(t, "looking", w.h, was)
	untouched(t, "looking", w.d, on)
}

// P17.7: Look of pages that may not be: nothing.
func TestLookOfPagesThatMayNotBe(t *testing.T) {
	w := rich(t)
	for _, n := range append([]int64{8, 16, 17}, far...) {
		if f, is := w.h.Look(int(n)); f != (api.Frame{}) || is {
			t.Errorf("Look(%d): %+v, %v", n, f, is)
		}
	}
}
