package lease_test

import (
	"slices"
	"testing"

	"millpond/api"
	"millpond/lease"
)

// used is a watch of three nodes and the patience 2: the node 0 is suspected, the node 1 said something else, the node 2 was not looked at.
func used(t *testing.T) *lease.Watch {
	t.Helper()
	w := made(t, 3, 2)
	again(t, w, 0, a, 3)
	again(t, w, 1, a, 1)
	again(t, w, 1, b, 2)
	return w
}

// asUsed fails unless a watch tells what used tells.
func asUsed(t *testing.T, name string, w *lease.Watch) {
	t.Helper()
	at(t, w, 0, a, true, 2)
	at(t, w, 1, b, true, 1)
	at(t, w, 2, api.Lease{}, false, 0)
	suspects(t, w, 0)
	if !lease.Same(w, used(t)) {
		t.Errorf("%s: it is not as it was", name)
	}
}

// changes is each thing by which the watch of used goes on.
func changes() map[string]func(*lease.Watch) {
	return map[string]func(*lease.Watch){
		"Look at the same":          func(w *lease.Watch) { w.Look(0, a) },
		"Look at another thing":     func(w *lease.Watch) { w.Look(0, b) },
		"Look at the same, younger": func(w *lease.Watch) { w.Look(1, b) },
		"Look at a new one":         func(w *lease.Watch) { w.Look(2, a) },
		"Look at a new one's zeros": func(w *lease.Watch) { w.Look(2, api.Lease{}) },
		"Forget":                    func(w *lease.Watch) { w.Forget(0) },
		"Forget a young one":        func(w *lease.Watch) { w.Forget(1) },
		"Clear":                     func(w *lease.Watch) { w.Clear() },
	}
}

// P10.4: a Copy is the same, and goes on apart, each way round; both go on alike.
func TestCopyGoesOnApart(t *testing.T) {
	for name, change := range changes() {
		w := used(t)
		x := w.Copy()
		if x == w || x == nil {
			t.Fatal("a Copy is another one")
		}
		asUsed(t, "a Copy", x)
		change(w)
		asUsed(t, name+" of a copied one", x)
		if lease.Same(w, x) || lease.Same(x, w) {
			t.Errorf("%s: the copy is the same yet", name)
		}
		change(x)
		if !lease.Same(w, x) || !lease.Same(x, w) {
			t.Errorf("%s of both: they are not the same", name)
		}

		w = used(t)
		change(w.Copy())
		asUsed(t, name+" of a copy", w)
	}
}

// P10.4: a Copy has the nodes and the patience of what was copied.
func TestCopyOfEach(t *testing.T) {
	for nodes := 1; nodes <= api.MaxNodes; nodes++ {
		for _, patience := range []int{1, 2, 50, api.MaxPatience} {
			x := made(t, nodes, patience).Copy()
			bare(t, x)
			wrongLook(t, x, nodes, a)
			again(t, x, nodes-1, a, patience)
			suspects(t, x)
			looks(t, x, nodes-1, a, true, patience)
		}
	}
}

// P10.4: watches that differ in one thing alone are not the same.
func TestSameOfWhatDiffersInOneThing(t *testing.T) {
	one := func(node int, l api.Lease, many int) *lease.Watch {
		w := made(t, 3, 2)
		again(t, w, node, l, many)
		return w
	}
	greater, longer := made(t, 4, 2), made(t, 3, 3)
	again(t, greater, 1, a, 2)
	again(t, longer, 1, a, 2)
	pairs := map[string][2]*lease.Watch{
		"nodes":              {made(t, 3, 2), made(t, 4, 2)},
		"nodes, looked at":   {one(1, a, 2), greater},
		"patience":           {made(t, 3, 2), made(t, 3, 3)},
		"patience, looked":   {one(1, a, 2), longer},
		"turned":             {made(t, 3, 2), made(t, 2, 3)},
		"looked at":          {made(t, 3, 2), one(1, a, 1)},
		"zeros, looked at":   {made(t, 3, 2), one(1, api.Lease{}, 1)},
		"zeros at the last":  {made(t, 3, 2), one(2, api.Lease{}, 1)},
		"who":                {one(1, a, 1), one(2, a, 1)},
		"the first or last":  {one(0, a, 1), one(2, a, 1)},
		"age":                {one(1, a, 1), one(1, a, 2)},
		"age, of suspected":  {one(1, a, 3), one(1, a, 4)},
		"age, of zeros":      {one(1, api.Lease{}, 1), one(1, api.Lease{}, 2)},
		"the Beat":           {one(1, a, 1), one(1, b, 1)},
		"Ready":              {one(1, a, 1), one(1, c, 1)},
		"the Epoch":          {one(1, a, 1), one(1, api.Lease{Epoch: 2, Beat: 1, Ready: 1}, 1)},
		"the Beat, of old":   {one(1, a, 5), one(1, b, 5)},
		"a Beat and a Ready": {one(1, api.Lease{Beat: 1}, 1), one(1, api.Lease{Ready: 1}, 1)},
	}
	for name, p := range pairs {
		if lease.Same(p[0], p[1]) || lease.Same(p[1], p[0]) {
			t.Errorf("%s: they are the same", name)
		}
		for _, w := range p {
			if !lease.Same(w, w) || !lease.Same(w, w.Copy()) {
				t.Errorf("%s: it is not the same as itself", name)
			}
		}
	}
}

// P10.4: watches that came to the same by other ways are the same.
func TestSameByOtherWays(t *testing.T) {
	for name, calls := range map[string]func(*lease.Watch){
		"in another order": func(w *lease.Watch) {
			again(t, w, 1, b, 2)
			again(t, w, 0, a, 3)
		},
		"behind Clear": func(w *lease.Watch) {
			again(t, w, 2, c, 9)
			again(t, w, 0, a, 1)
			w.Clear()
			again(t, w, 0, a, 3)
			again(t, w, 1, b, 2)
		},
		"behind Forget": func(w *lease.Watch) {
			again(t, w, 2, a, 9)
			again(t, w, 0, a, 3)
			again(t, w, 1, b, 7)
			w.Forget(2)
			w.Forget(1)
			again(t, w, 1, b, 2)
		},
		"behind other leases": func(w *lease.Watch) {
			again(t, w, 0, b, 5)
			again(t, w, 0, api.Lease{}, 1)
			again(t, w, 0, a, 3)
			again(t, w, 1, c, 5)
			again(t, w, 1, b, 2)
		},
		"with what is refused": func(w *lease.Watch) {
			again(t, w, 0, a, 3)
			w.Look(0, api.Lease{Epoch: -1})
			w.Look(3, a)
			again(t, w, 1, b, 2)
			w.Forget(3)
			w.Look(-1, a)
		},
	} {
		w := made(t, 3, 2)
		calls(w)
		asUsed(t, name, w)
	}
}

// P10.4: two of nil, zero and made ones.
func TestSameOfNone(t *testing.T) {
	none := []*lease.Watch{nil, {}, new(lease.Watch)}
	for _, x := range none {
		for _, y := range none {
			if !lease.Same(x, y) {
				t.Errorf("%v and %v are not the same", x, y)
			}
		}
		for nodes := 1; nodes <= api.MaxNodes; nodes++ {
			for _, patience := range []int{1, 2, api.MaxPatience} {
				if w := made(t, nodes, patience); lease.Same(x, w) || lease.Same(w, x) {
					t.Errorf("%v is the same as a watch of %d", x, nodes)
				}
			}
		}
		if w := used(t); lease.Same(x, w) || lease.Same(w, x) {
			t.Errorf("%v is the same as one that is used", x)
		}
	}
}

// P10.2, P10.3, P10.4: no watch and a zero one in each call; ErrNil goes ahead of ErrArg.
func TestNoWatch(t *testing.T) {
	for _, w := range []*lease.Watch{nil, {}} {
		for _, node := range append([]int{0, 1, 7, 8}, far...) {
			for _, l := range []api.Lease{a, {}, {Epoch: -1}, {Beat: -1}, {Ready: -1}} {
				if is, e := w.Look(node, l); is || e != api.ErrNil {
					t.Errorf("Look(%d, %+v): %v, %v", node, l, is, e)
				}
			}
			if e := w.Forget(node); e != api.ErrNil {
				t.Errorf("Forget(%d): %v", node, e)
			}
			at(t, w, node, api.Lease{}, false, 0)
		}
		if e := w.Clear(); e != api.ErrNil {
			t.Errorf("Clear: %v", e)
		}
		if l := w.Suspected(); len(l) > 0 {
			t.Errorf("Suspected: %v", l)
		}
		if x := w.Copy(); x != nil {
			t.Errorf("Copy: %v", x)
		}
		if !lease.Same(w, nil) || !lease.Same(nil, w) {
			t.Error("it is no more as nil")
		}
	}
}

// The rules for all layers: to look at a watch, to copy it, to hold it against another one changes nothing; what is handed in stays as it was.
func TestLookingChangesNothing(t *testing.T) {
	w, other := used(t), used(t)
	for range 2 {
		for node := -1; node <= 3; node++ {
			w.Age(node)
			w.Said(node)
		}
		w.Suspected()
		w.Copy()
		lease.Same(w, other)
		lease.Same(w, nil)
		lease.Same(made(t, 3, 2), w)
	}
	asUsed(t, "looking", w)
	asUsed(t, "being held against one", other)

	l := a
	w.Look(2, l)
	l.Beat = 77
	at(t, w, 2, a, true, 0)
	got, _ := w.Said(2)
	got.Epoch = 9
	at(t, w, 2, a, true, 0)

	s, _ := lease.Put(a)
	was := slices.Clone(s[:])
	lease.Get(s)
	if l.Beat != 77 || !slices.Equal(s[:], was) {
		t.Errorf("what was handed in is changed: %+v, % x", l, s)
	}
}
