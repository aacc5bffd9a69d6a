package device_test

import (
	"math"
	"testing"

	"millpond/api"
	"millpond/device"
)

// P2.4
func TestCutIsOneAtATime(t *testing.T) {
	d := of(t, "ab", 0)
	for _, n := range []int{-1, math.MinInt} {
		if e := d.Cut(n); e != api.ErrArg {
			t.Errorf("Cut(%d): %v", n, e)
		}
	}
	if e := d.Cut(1); e != api.OK {
		t.Errorf("the first cut: %v", e)
	}
	if a, b, c := d.Cut(0), d.Cut(9), d.Cut(-1); a != api.ErrBusy || b != api.ErrBusy || c != api.ErrArg {
		t.Error("a second cut:", a, b, c)
	}
	d.Write(0, 0, 0, full('x'), full('x')) // the first cut holds yet
	has(t, d, "xb", 1, 0)
	if d.Whole() {
		t.Error("not all was done")
	}
	if !d.Whole() {
		t.Error("there is no cut any more")
	}
	if e := d.Cut(math.MaxInt); e != api.OK {
		t.Errorf("a cut behind Whole: %v", e)
	}
	d.Write(0, 0, 0, full('y'), full('y'))
	if !d.Whole() {
		t.Error("all was done")
	}
	has(t, d, "yy", 3, 0)
}

// P2.4: a cut that is refused is none.
func TestCutBelowNoughtIsNone(t *testing.T) {
	d := of(t, "ab", 0)
	d.Cut(-1)
	d.Write(0, 0, 0, full('x'), full('x'))
	has(t, d, "xx", 2, 0)
	if e := d.Cut(0); e != api.OK {
		t.Error(e)
	}
}

// P2.4, P2.6, P0.5: a write that is cut has its first sectors written, and no other ones.
func TestCutWithinAWrite(t *testing.T) {
	for _, x := range []struct {
		n     int
		has   string
		whole bool
	}{{0, "abcd", false}, {1, "awcd", false}, {2, "awxd", false}, {3, "awxy", true}, {4, "awxy", true}} {
		d := of(t, "abcd", 0)
		d.Cut(x.n)
		if e := d.Write(0, 0, 1, full('w'), full('x'), full('y')); e != api.OK {
			t.Errorf("a cut of %d: Write: %v", x.n, e)
		}
		has(t, d, x.has, int64(min(x.n, 3)), 0)
		for i, c := range []byte(x.has) {
			if s, e := d.Read(i); s != full(c) || e != api.OK {
				t.Errorf("a cut of %d: the sector %d", x.n, i)
			}
		}
		if d.Whole() != x.whole {
			t.Errorf("a cut of %d: Whole is not %v", x.n, x.whole)
		}
		has(t, d, x.has, int64(min(x.n, 3)), 0)
		d.Write(0, 0, 0, full('z'))
		has(t, d, "z"+x.has[1:], int64(min(x.n, 3)+1), 0)
	}
}

// P2.4: a cut that is used up by one write counts for the next.
func TestCutGoesOverCalls(t *testing.T) {
	d := of(t, "abcd", 0, 0)
	d.Cut(3)
	d.Write(0, 0, 0, full('w'), full('x'))
	d.Up(1)
	has(t, d, "wxcd", 3, 0, 1)
	c := d.Copy()
	if !c.Whole() {
		t.Error("just as many as the cut: all was done")
	}
	d.Write(0, 0, 2, full('y'))
	d.Up(1)
	d.Swap(0, 0, 3, full('d'), full('z'))
	d.Fence(0, 0, 1, 9)
	has(t, d, "wxcd", 3, 0, 1)
	if d.Whole() {
		t.Error("more than the cut")
	}
}

// P2.4: behind a cut a Swap is answered from what is there, each time.
func TestCutAtASwap(t *testing.T) {
	d := of(t, "ab", 0)
	d.Cut(0)
	for range 2 {
		if ok, e := d.Swap(0, 0, 0, full('a'), full('x')); !ok || e != api.OK {
			t.Error("it would swap:", ok, e)
		}
		if ok, e := d.Swap(0, 0, 0, full('x'), full('y')); ok || e != api.OK {
			t.Error("nothing was swapped:", ok, e)
		}
	}
	has(t, d, "ab", 0, 0)
	if d.Whole() {
		t.Error("a swap was lost")
	}
	d.Cut(1)
	if ok, _ := d.Swap(0, 0, 0, full('a'), full('x')); !ok {
		t.Error("it swaps")
	}
	if ok, _ := d.Swap(0, 0, 1, full('b'), full('y')); !ok {
		t.Error("it would swap")
	}
	has(t, d, "xb", 1, 0)
	if d.Whole() {
		t.Error("the second swap was lost")
	}
}

// P2.4: behind a cut Up is answered from what is there, each time.
func TestCutAtAnUp(t *testing.T) {
	d := of(t, "a", 5, 0)
	d.Cut(1)
	for i, want := range []int64{6, 7, 7} {
		if n, e := d.Up(0); n != want || e != api.OK {
			t.Errorf("Up %d: %d, %v", i, n, e)
		}
	}
	has(t, d, "a", 1, 6, 0)
	if e := d.Write(0, 7, 0, full('x')); e != api.ErrArg {
		t.Errorf("an epoch that the device does not have: %v", e)
	}
	if d.Whole() {
		t.Error("an Up was lost")
	}
	if n, e := d.Up(0); n != 7 || e != api.OK {
		t.Errorf("Up without a cut: %d, %v", n, e)
	}
	has(t, d, "a", 2, 7, 0)
}

// P2.4: behind a cut a Fence is OK, and raises nothing.
func TestCutAtAFence(t *testing.T) {
	d := of(t, "a", 5, 3)
	d.Cut(0)
	if e := d.Fence(1, 3, 0, 5); e != api.OK || d.Fenced(0, 5) {
		t.Error(e)
	}
	if e := d.Write(0, 5, 0, full('x')); e != api.OK {
		t.Errorf("it is not fenced: %v", e)
	}
	has(t, d, "a", 0, 5, 3)
	if d.Whole() {
		t.Error("a fence was lost")
	}
	d.Cut(1)
	d.Fence(1, 3, 0, 5)
	if !d.Fenced(0, 5) || !d.Whole() {
		t.Error("a fence within the cut")
	}
	has(t, d, "a", 1, 6, 3)
}

// P2.4: what does nothing is no thing, neither within a cut nor behind it.
func TestWhatDoesNothingDoesNotCount(t *testing.T) {
	d := of(t, "ab", 5, api.MaxEpoch)
	idle := func() {
		d.Write(0, 5, 1)
		d.Swap(0, 5, 0, full('x'), full('y'))
		d.Fence(0, 5, 0, 4)
		d.Up(1)
		d.Write(0, 4, 0, full('x'))
		d.Write(0, 6, 0, full('x'))
		d.Write(0, 5, 1, full('x'), full('x'))
		d.Swap(0, 4, 0, full('a'), full('x'))
		d.Swap(0, 5, 2, full('a'), full('x'))
		d.Fence(0, 4, 0, 9)
		d.Fence(0, 5, 0, -1)
		d.Read(0)
	}
	for n := range 2 {
		d.Cut(n)
		idle()
		has(t, d, "ab", 0, 5, api.MaxEpoch)
		if n == 1 {
			idle()
		}
		if !d.Whole() {
			t.Errorf("a cut of %d: nothing was lost", n)
		}
	}
	d.Cut(1)
	idle()
	d.Write(0, 5, 0, full('x'))
	has(t, d, "xb", 1, 5, api.MaxEpoch)
	if !d.Whole() {
		t.Error("the one thing was done")
	}
}

// P2.4: errors are told behind a cut as without one.
func TestErrorsBehindACut(t *testing.T) {
	d := of(t, "ab", 5, api.MaxEpoch)
	d.Cut(0)
	_, up := d.Up(1)
	_, none := d.Up(2)
	_, swap := d.Swap(0, 4, 0, full('a'), full('x'))
	_, read := d.Read(2)
	for i, x := range [][2]api.Errno{
		{up, api.ErrFull}, {none, api.ErrArg}, {swap, api.ErrFenced}, {read, api.ErrArg},
		{d.Write(0, 4, 0, full('x')), api.ErrFenced}, {d.Write(0, 5, 2, full('x')), api.ErrArg},
		{d.Fence(0, 4, 1, 0), api.ErrFenced}, {d.Fence(0, 5, 1, api.MaxEpoch), api.ErrArg},
	} {
		if x[0] != x[1] {
			t.Errorf("%d: %v, not %v", i, x[0], x[1])
		}
	}
}

// P2.4: a thing counts, though what is there was the same.
func TestSameBytesCount(t *testing.T) {
	d := of(t, "ab", 0)
	d.Write(0, 0, 0, full('a'), full('b'))
	has(t, d, "ab", 2, 0)
	d.Cut(1)
	d.Write(0, 0, 0, full('a'), full('b'))
	if d.Whole() {
		t.Error("the second sector was not written")
	}
	has(t, d, "ab", 3, 0)
}

// P2.4: a Fence is one thing, however far it raises.
func TestAFenceIsOneThing(t *testing.T) {
	d := of(t, "a", 0, 0)
	d.Cut(2)
	d.Fence(0, 0, 1, 100)
	d.Fence(0, 0, 1, 200)
	if !d.Whole() {
		t.Error("two things")
	}
	has(t, d, "a", 2, 0, 201)
}

// P2.5: a copy has the cut too, and uses it up by itself.
func TestCopyOfACut(t *testing.T) {
	d := of(t, "abc", 0)
	d.Write(0, 0, 0, full('x'))
	d.Cut(1)
	c := d.Copy()
	if e := c.Cut(1); e != api.ErrBusy {
		t.Errorf("the copy's cut: %v", e)
	}
	d.Write(0, 0, 1, full('y'), full('y'))
	has(t, c, "xbc", 1, 0)
	c.Write(0, 0, 2, full('z'))
	has(t, c, "xbz", 2, 0)
	has(t, d, "xyc", 2, 0)
	if !c.Whole() || d.Whole() {
		t.Error("one's cut is the other's")
	}

	d.Cut(0)
	d.Up(0)
	c = d.Copy()
	if c.Whole() || c.Cut(0) != api.OK || d.Cut(0) != api.ErrBusy || d.Whole() {
		t.Error("what was lost is lost in the copy too, and the cut ends in it alone")
	}
}

// P2.6: the example of the chapter, with its cut.
func TestExamples(t *testing.T) {
	d := made(t, 4, 2)
	d.Up(0)
	d.Up(0)
	has(t, d, "....", 2, 2, 0)
	s, u := full('s'), full('t')
	for i, x := range [][2]api.Errno{
		{d.Write(0, 1, 0, s), api.ErrFenced}, {d.Write(0, 3, 0, s), api.ErrArg}, {d.Write(0, 2, 3, s, u), api.ErrArg}, {d.Write(0, 2, 2, s, u), api.OK},
		{d.Cut(1), api.OK}, {d.Write(0, 2, 0, u, u), api.OK},
	} {
		if x[0] != x[1] {
			t.Errorf("%d: %v, not %v", i, x[0], x[1])
		}
	}
	if d.Whole() {
		t.Error("Whole")
	}
	has(t, d, "t.st", 5, 2, 0)
	a, _ := d.Swap(0, 2, 0, s, u)
	b, _ := d.Swap(0, 2, 0, u, s)
	if a || !b {
		t.Error(a, b)
	}
	has(t, d, "s.st", 6, 2, 0)
	for i, x := range [][2]api.Errno{
		{d.Fence(1, 0, 0, 2), api.OK}, {d.Write(0, 2, 0, u), api.ErrFenced}, {d.Fence(0, 2, 1, 9), api.ErrFenced}, {d.Fence(1, 0, 0, 1), api.OK},
	} {
		if x[0] != x[1] {
			t.Errorf("fencing %d: %v, not %v", i, x[0], x[1])
		}
	}
	has(t, d, "s.st", 7, 3, 0)
	if !device.Same(d, d.Copy()) {
		t.Error("Copy")
	}
}
