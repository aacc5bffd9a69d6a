package lease_test

import (
	"math"
	"slices"
	"testing"

	"millpond/api"
	"millpond/lease"
)

// a, b and c are leases that differ from each other in one part alone.
var (
	a = api.Lease{Epoch: 1, Beat: 1, Ready: 1}
	b = api.Lease{Epoch: 1, Beat: 2, Ready: 1}
	c = api.Lease{Epoch: 1, Beat: 1, Ready: 2}
)

// far are numbers that no bound lets in; some have one that may be in their lowest byte, or in their lowest four.
var far = []int{-1, -2, -8, -256, 256, 257, 1 << 32, 1<<32 + 1, 1 - 1<<32, 1<<62 + 1, math.MaxInt, math.MaxInt - 1, math.MinInt, math.MinInt + 1}

// made is a new watch.
func made(t *testing.T, nodes, patience int) *lease.Watch {
	t.Helper()
	w, e := lease.New(nodes, patience)
	if w == nil || e != api.OK {
		t.Fatalf("New(%d, %d): %v, %v", nodes, patience, w, e)
	}
	return w
}

// looks fails unless a look at what a node says tells whether it is suspected, and its age is that.
func looks(t *testing.T, w *lease.Watch, node int, l api.Lease, suspected bool, age int) {
	t.Helper()
	if is, e := w.Look(node, l); is != suspected || e != api.OK {
		t.Errorf("Look(%d, %+v): %v, %v; not %v", node, l, is, e, suspected)
	}
	at(t, w, node, l, true, age)
}

// at fails unless a watch tells that of a node.
func at(t *testing.T, w *lease.Watch, node int, l api.Lease, looked bool, age int) {
	t.Helper()
	if got, ok := w.Said(node); got != l || ok != looked {
		t.Errorf("Said(%d): %+v, %v; not %+v, %v", node, got, ok, l, looked)
	}
	if got := w.Age(node); got != age {
		t.Errorf("Age(%d): %d; not %d", node, got, age)
	}
}

// suspects fails unless just these are suspected.
func suspects(t *testing.T, w *lease.Watch, nodes ...int) {
	t.Helper()
	if l := w.Suspected(); !slices.Equal(l, nodes) {
		t.Errorf("Suspected: %v; not %v", l, nodes)
	}
}

// bare fails unless nobody was looked at.
func bare(t *testing.T, w *lease.Watch) {
	t.Helper()
	for node := -1; node <= api.MaxNodes; node++ {
		at(t, w, node, api.Lease{}, false, 0)
	}
	suspects(t, w)
}

// again looks at the same so often.
func again(t *testing.T, w *lease.Watch, node int, l api.Lease, many int) {
	t.Helper()
	for range many {
		if _, e := w.Look(node, l); e != api.OK {
			t.Fatalf("Look(%d, %+v): %v", node, l, e)
		}
	}
}

// P10.2, P10.3: the chapter's examples.
func TestExamplesOfWatches(t *testing.T) {
	for _, x := range [][2]int{{0, 2}, {3, 0}} {
		if w, e := lease.New(x[0], x[1]); w != nil || e != api.ErrArg {
			t.Errorf("New(%d, %d): %v, %v", x[0], x[1], w, e)
		}
	}
	w := made(t, 3, 2)
	wrongLook(t, w, 3, a)
	wrongLook(t, w, 1, api.Lease{Beat: -1})
	bare(t, w)
	looks(t, w, 1, a, false, 0)
	looks(t, w, 1, a, false, 1)
	looks(t, w, 1, a, true, 2)
	suspects(t, w, 1)
	looks(t, w, 1, b, false, 0)
	looks(t, w, 2, a, false, 0)
	if e := w.Forget(1); e != api.OK {
		t.Error(e)
	}
	at(t, w, 1, api.Lease{}, false, 0)
	at(t, w, 2, a, true, 0)
}

// wrongLook fails unless a look is refused, and changes nothing.
func wrongLook(t *testing.T, w *lease.Watch, node int, l api.Lease) {
	t.Helper()
	was := w.Copy()
	if is, e := w.Look(node, l); is || e != api.ErrArg {
		t.Errorf("Look(%d, %+v): %v, %v", node, l, is, e)
	}
	if !lease.Same(w, was) {
		t.Errorf("Look(%d, %+v) is refused, and changes the watch", node, l)
	}
}

// P10.2: each number of nodes and each patience that may be: nobody was looked at, and each node can be.
func TestNew(t *testing.T) {
	for nodes := 1; nodes <= api.MaxNodes; nodes++ {
		for patience := 1; patience <= api.MaxPatience; patience++ {
			w := made(t, nodes, patience)
			bare(t, w)
			for node := range nodes {
				looks(t, w, node, a, false, 0)
			}
			wrongLook(t, w, nodes, a)
			wrongLook(t, w, -1, a)
		}
	}
}

// P10.2: nodes and patience just beyond their bounds, and far from them; each alone, and both.
func TestNewOfWhatMayNotBe(t *testing.T) {
	wrongNodes := append([]int{0, api.MaxNodes + 1, api.MaxNodes + 2, api.MaxPatience}, far...)
	wrongPatience := append([]int{0, api.MaxPatience + 1, api.MaxPatience + 2}, far...)
	refused := func(nodes, patience int) {
		if w, e := lease.New(nodes, patience); w != nil || e != api.ErrArg {
			t.Errorf("New(%d, %d): %v, %v", nodes, patience, w, e)
		}
	}
	for _, nodes := range wrongNodes {
		for _, patience := range []int{1, 2, 8, api.MaxPatience} {
			refused(nodes, patience)
		}
		for _, patience := range wrongPatience {
			refused(nodes, patience)
		}
	}
	for _, patience := range wrongPatience {
		for _, nodes := range []int{1, 3, api.MaxNodes} {
			refused(nodes, patience)
		}
	}
}

// P10.2, P10.3, P10.5: of each patience: one look less, the one by which it is suspected, and those behind it; another lease makes it young again.
func TestEachPatience(t *testing.T) {
	for patience := 1; patience <= api.MaxPatience; patience++ {
		w := made(t, 3, patience)
		for round, l := range []api.Lease{a, b, {}, a} {
			for age := range patience {
				looks(t, w, 2, l, false, age)
				suspects(t, w)
			}
			looks(t, w, 2, l, true, patience)
			suspects(t, w, 2)
			for more := 1; more <= round+3; more++ {
				looks(t, w, 2, l, true, patience+more)
				suspects(t, w, 2)
			}
		}
		at(t, w, 0, api.Lease{}, false, 0)
		at(t, w, 1, api.Lease{}, false, 0)
	}
}

// P10.3: an age goes on far beyond any patience.
func TestAgeGoesOn(t *testing.T) {
	w := made(t, 2, 1)
	for age := range 70000 {
		looks(t, w, 0, a, age > 0, age)
	}
	looks(t, w, 0, b, false, 0)
}

// P10.2, P10.5: a lease is another one, if it differs in any one part; whatever it said ahead of the last look does not count.
func TestAnotherThing(t *testing.T) {
	for _, l := range few {
		for part, change := range map[string]func(*api.Lease){
			"Epoch":            func(l *api.Lease) { l.Epoch ^= 1 },
			"a high Epoch":     func(l *api.Lease) { l.Epoch ^= 1 << 30 },
			"Beat":             func(l *api.Lease) { l.Beat = l.Beat + 1 - 2*(l.Beat&1) },
			"a lower Beat":     func(l *api.Lease) { l.Beat /= 2 },
			"a high Beat":      func(l *api.Lease) { l.Beat ^= 1 << 61 },
			"Ready":            func(l *api.Lease) { l.Ready = l.Ready + 1 - 2*(l.Ready&1) },
			"a lower Ready":    func(l *api.Lease) { l.Ready /= 2 },
			"a high Ready":     func(l *api.Lease) { l.Ready ^= 1 << 61 },
			"Beat for Ready":   func(l *api.Lease) { l.Beat, l.Ready = l.Ready, l.Beat },
			"Epoch for a Beat": func(l *api.Lease) { l.Epoch, l.Beat = l.Beat, l.Epoch },
		} {
			other := l
			change(&other)
			if other == l || !mayByWords(other) {
				continue
			}
			w := made(t, 1, 2)
			again(t, w, 0, l, 4)
			at(t, w, 0, l, true, 3)
			looks(t, w, 0, other, false, 0)
			looks(t, w, 0, l, false, 0)
			looks(t, w, 0, other, false, 0)
			looks(t, w, 0, other, false, 1)
			looks(t, w, 0, other, true, 2)
			if t.Failed() {
				t.Fatalf("%s: %+v and %+v", part, l, other)
			}
		}
	}
}

// P10.2, P10.3: a lease of zeros is one that was said.
func TestALeaseOfZeros(t *testing.T) {
	w := made(t, 2, 1)
	looks(t, w, 1, api.Lease{}, false, 0)
	at(t, w, 0, api.Lease{}, false, 0)
	looks(t, w, 1, api.Lease{}, true, 1)
	if e := w.Forget(1); e != api.OK {
		t.Error(e)
	}
	at(t, w, 1, api.Lease{}, false, 0)
	looks(t, w, 1, api.Lease{}, false, 0)
}

// P10.2: a look at a lease that may not be, at each node, looked at and not.
func TestLooksAtWrongLeases(t *testing.T) {
	w := made(t, 3, 2)
	again(t, w, 0, a, 1)
	again(t, w, 1, api.Lease{}, 3)
	for _, l := range wrong() {
		for node := -1; node <= 3; node++ {
			wrongLook(t, w, node, l)
		}
	}
	looks(t, w, 0, a, false, 1)
	looks(t, w, 1, api.Lease{}, true, 3)
	looks(t, w, 2, a, false, 0)
}

// P10.2: leases at the bounds are looked at.
func TestLooksAtRightLeases(t *testing.T) {
	w := made(t, 8, 1)
	for _, l := range some() {
		again(t, w, 7, l, 1)
		looks(t, w, 7, l, true, 1)
	}
}

// P10.2, P10.3: nodes that are none: just beyond, far from the bounds; those whom a greater watch has.
func TestNodesThatAreNone(t *testing.T) {
	for nodes := 1; nodes <= api.MaxNodes; nodes++ {
		w := made(t, nodes, 1)
		for node := range nodes {
			again(t, w, node, a, 3)
		}
		was := w.Copy()
		for _, node := range append([]int{nodes, nodes + 1, 8, 9}, far...) {
			for _, l := range []api.Lease{a, b, {}, {Epoch: -1}} {
				wrongLook(t, w, node, l)
			}
			if e := w.Forget(node); e != api.ErrArg {
				t.Errorf("Forget(%d): %v", node, e)
			}
			at(t, w, node, api.Lease{}, false, 0)
		}
		if !lease.Same(w, was) {
			t.Errorf("nodes that are none change a watch of %d", nodes)
		}
	}
}

// P10.2, P10.3: Forget is of one node alone, looked at or not; what is said behind it is new.
func TestForget(t *testing.T) {
	for nodes := 1; nodes <= api.MaxNodes; nodes++ {
		for node := range nodes {
			w := made(t, nodes, 2)
			var left []int
			for other := range nodes {
				again(t, w, other, a, 3+other)
				if other != node {
					left = append(left, other)
				}
			}
			for range 2 {
				if e := w.Forget(node); e != api.OK {
					t.Fatal(e)
				}
				at(t, w, node, api.Lease{}, false, 0)
				suspects(t, w, left...)
				for _, other := range left {
					at(t, w, other, a, true, 2+other)
				}
			}
			looks(t, w, node, a, false, 0)
			looks(t, w, node, a, false, 1)
			suspects(t, w, left...)
			looks(t, w, node, a, true, 2)
		}
	}
}

// P10.2, P10.3: behind Clear a watch is as a new one, again and again.
func TestClear(t *testing.T) {
	for nodes := 1; nodes <= api.MaxNodes; nodes++ {
		w := made(t, nodes, 2)
		for range 3 {
			for node := range nodes {
				again(t, w, node, a, 2+node)
			}
			for range 2 {
				if e := w.Clear(); e != api.OK {
					t.Fatal(e)
				}
				bare(t, w)
				if !lease.Same(w, made(t, nodes, 2)) {
					t.Error("behind Clear it is not as a new one")
				}
			}
			for node := range nodes {
				looks(t, w, node, a, false, 0)
				looks(t, w, node, a, false, 1)
				looks(t, w, node, a, true, 2)
			}
			wrongLook(t, w, nodes, a)
		}
	}
}

// P10.3: Suspected tells each set of nodes, rising, in whatever order they are looked at.
func TestEachSetOfSuspected(t *testing.T) {
	for in := range 256 {
		up, down := made(t, 8, 3), made(t, 8, 3)
		var want []int
		for node := range 8 {
			many := 3
			if in>>node&1 == 1 {
				many = 4
				want = append(want, node)
			}
			again(t, up, node, a, many)
		}
		for node := 7; node >= 0; node-- {
			again(t, down, node, b, 3+in>>node&1)
		}
		suspects(t, up, want...)
		suspects(t, down, want...)
	}
}

// P10.3: what Suspected answers is the caller's own.
func TestSuspectedIsTheCallers(t *testing.T) {
	w := made(t, 8, 1)
	for node := range 8 {
		again(t, w, node, a, 2)
	}
	l, m := w.Suspected(), w.Suspected()
	for i := range l[:cap(l)] {
		l[:cap(l)][i] = 99
	}
	if !slices.Equal(m, []int{0, 1, 2, 3, 4, 5, 6, 7}) {
		t.Errorf("two answers share memory: %v", m)
	}
	suspects(t, w, 0, 1, 2, 3, 4, 5, 6, 7)
}

// P10.5: one who says another thing at each look is never suspected, whoever else is looked at; a beat that rises does it.
func TestWhoLivesIsNotSuspected(t *testing.T) {
	for _, patience := range []int{1, 2, 5, api.MaxPatience} {
		w := made(t, 4, patience)
		for beat := range int64(500) {
			looks(t, w, 0, api.Lease{Epoch: 1, Beat: beat}, false, 0)
			looks(t, w, 1, api.Lease{Epoch: 1, Beat: beat % 2}, false, 0)
			looks(t, w, 2, a, beat >= int64(patience), int(beat))
			looks(t, w, 3, api.Lease{Ready: 1 + beat%3}, false, 0)
		}
		suspects(t, w, 2)
	}
}

// P10.5: one who says the same at Patience looks behind the first one is suspected, however often others are looked at between, forgotten, or say the same.
func TestWhoSaysTheSameIsSuspected(t *testing.T) {
	for node := range 3 {
		for others := range 5 {
			w := made(t, 3, 4)
			for age := range 7 {
				looks(t, w, node, c, age >= 4, age)
				for many := range others {
					again(t, w, (node+1)%3, api.Lease{Epoch: 1, Beat: int64(5*age + many)}, 1)
					again(t, w, (node+2)%3, c, 1)
				}
				if e := w.Forget((node + 2) % 3); e != api.OK {
					t.Error(e)
				}
				at(t, w, node, c, true, age)
			}
			suspects(t, w, node)
		}
	}
}
