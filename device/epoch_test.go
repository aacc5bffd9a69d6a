package device_test

import (
	"math"
	"testing"

	"millpond/api"
	"millpond/device"
)

// outside are numbers of no node of a device of two.
var outside = []int{-1, 2, 7, 8, math.MaxInt, math.MinInt}

// P2.3
func TestEpochAndUp(t *testing.T) {
	d := of(t, "a", 0, 7)
	for i := int64(1); i <= 3; i++ {
		if n, e := d.Up(0); n != i || e != api.OK {
			t.Errorf("Up: %d, %v", n, e)
		}
		has(t, d, "a", i, i, 7)
	}
	if n, e := d.Epoch(1); n != 7 || e != api.OK {
		t.Errorf("Epoch: %d, %v", n, e)
	}
	for _, node := range outside {
		if n, e := d.Epoch(node); n != 0 || e != api.ErrArg {
			t.Errorf("Epoch(%d): %d, %v", node, n, e)
		}
		if n, e := d.Up(node); n != 0 || e != api.ErrArg {
			t.Errorf("Up(%d): %d, %v", node, n, e)
		}
	}
	has(t, d, "a", 3, 3, 7)
}

// P2.3
func TestUpEndsAtTheGreatestEpoch(t *testing.T) {
	d := of(t, "a", api.MaxEpoch-1, 0)
	if n, e := d.Up(0); n != api.MaxEpoch || e != api.OK {
		t.Errorf("to the greatest: %d, %v", n, e)
	}
	for range 2 {
		if n, e := d.Up(0); n != 0 || e != api.ErrFull {
			t.Errorf("past the greatest: %d, %v", n, e)
		}
	}
	has(t, d, "a", 1, api.MaxEpoch, 0)
}

// P2.3, P2.6: an epoch is raised to above and one more, and never falls.
func TestFenceRaises(t *testing.T) {
	for _, x := range []struct {
		above int64
		want  api.Errno
		epoch int64
	}{
		{-1, api.ErrArg, 5}, {math.MinInt64, api.ErrArg, 5},
		{0, api.OK, 5}, {3, api.OK, 5}, {4, api.OK, 5},
		{5, api.OK, 6}, {6, api.OK, 7}, {100, api.OK, 101},
		{api.MaxEpoch - 1, api.OK, api.MaxEpoch}, {api.MaxEpoch, api.ErrArg, 5}, {math.MaxInt64, api.ErrArg, 5},
	} {
		d := of(t, "a", 5, 3)
		if e := d.Fence(1, 3, 0, x.above); e != x.want {
			t.Errorf("above %d: %v, not %v", x.above, e, x.want)
		}
		done := int64(0)
		if x.epoch != 5 {
			done = 1
		}
		has(t, d, "a", done, x.epoch, 3)
	}
}

// P2.3
func TestFenceAtBothEnds(t *testing.T) {
	d := of(t, "a", 0, api.MaxEpoch)
	if e := d.Fence(1, api.MaxEpoch, 0, 0); e != api.OK {
		t.Errorf("above 0 at 0: %v", e)
	}
	has(t, d, "a", 1, 1, api.MaxEpoch)
	if e := d.Fence(0, 1, 1, api.MaxEpoch-1); e != api.OK {
		t.Errorf("one that has the greatest: %v", e)
	}
	has(t, d, "a", 1, 1, api.MaxEpoch)
}

// P2.3, P2.6, P0.2: who may fence, and that a wrong one changes nothing.
func TestWhoMayFence(t *testing.T) {
	for _, x := range []struct {
		name  string
		by    int
		epoch int64
		who   int
		above int64
		want  api.Errno
	}{
		{"the device's epoch", 0, 5, 1, 9, api.OK},
		{"a fenced one", 0, 4, 1, 9, api.ErrFenced},
		{"a fenced 0", 0, 0, 1, 9, api.ErrFenced},
		{"a fenced one that would change nothing", 0, 4, 1, 0, api.ErrFenced},
		{"an epoch above the device's", 0, 6, 1, 9, api.ErrArg},
		{"an epoch below 0", 0, -1, 1, 9, api.ErrArg},
		{"the least epoch", 0, math.MinInt64, 1, 9, api.ErrArg},
		{"the greatest epoch", 0, math.MaxInt64, 1, 9, api.ErrArg},
		{"by no node", 2, 0, 1, 9, api.ErrArg},
		{"by a node below 0", -1, 0, 1, 9, api.ErrArg},
		{"no node", 0, 5, 2, 9, api.ErrArg},
		{"a node below 0", 0, 5, -1, 9, api.ErrArg},
		{"a fenced one, of no node", 0, 4, 2, 9, api.ErrArg},
		{"a fenced one, above -1", 0, 4, 1, -1, api.ErrArg},
		{"a fenced one, above MaxEpoch", 0, 4, 1, api.MaxEpoch, api.ErrArg},
	} {
		d := of(t, "a", 5, 3)
		if e := d.Fence(x.by, x.epoch, x.who, x.above); e != x.want {
			t.Errorf("%s: %v, not %v", x.name, e, x.want)
		}
		if x.want == api.OK {
			has(t, d, "a", 1, 5, x.above+1)
		} else {
			has(t, d, "a", 0, 5, 3)
		}
	}
}

// P2.3: nobody forbids one to fence itself.
func TestFenceOfItself(t *testing.T) {
	d := of(t, "a", 5, 3)
	if a, b := d.Fence(0, 5, 0, 5), d.Fence(0, 5, 0, 6); a != api.OK || b != api.ErrFenced {
		t.Error(a, b)
	}
	has(t, d, "a", 1, 6, 3)
}

// P2.3
func TestFenced(t *testing.T) {
	d := of(t, "a", 5, 0)
	for _, x := range []struct {
		node  int
		epoch int64
		want  bool
	}{
		{0, 4, true}, {0, 0, true}, {0, -1, true}, {0, math.MinInt64, true}, {0, 5, false}, {0, 6, false}, {0, math.MaxInt64, false},
		{1, 0, false}, {1, -1, true}, {1, 1, false},
		{2, -1, false}, {-1, -1, false}, {7, -1, false}, {8, -1, false}, {math.MaxInt, -1, false}, {math.MinInt, -1, false},
	} {
		if d.Fenced(x.node, x.epoch) != x.want {
			t.Errorf("Fenced(%d, %d) is not %v", x.node, x.epoch, x.want)
		}
	}
	has(t, d, "a", 0, 5, 0)
}

// P0.2, P2.6: an elder incarnation that is out gets nothing done any more, by whatever call.
func TestAnElderOneIsOut(t *testing.T) {
	for name, out := range map[string]func(*device.Device){
		"Up":    func(d *device.Device) { d.Up(0) },
		"Fence": func(d *device.Device) { d.Fence(1, 3, 0, 5) },
	} {
		d := of(t, "ab", 5, 3)
		out(d)
		was := d.Copy()
		if e := d.Write(0, 5, 0, full('x'), full('x')); e != api.ErrFenced {
			t.Errorf("%s: Write: %v", name, e)
		}
		if ok, e := d.Swap(0, 5, 0, full('a'), full('x')); ok || e != api.ErrFenced {
			t.Errorf("%s: Swap: %v, %v", name, ok, e)
		}
		if e := d.Fence(0, 5, 1, 9); e != api.ErrFenced {
			t.Errorf("%s: Fence: %v", name, e)
		}
		if !device.Same(was, d) || d.Done() != was.Done() {
			t.Errorf("%s: a fenced one changed something", name)
		}
		if n, e := d.Up(0); n != 7 || e != api.OK {
			t.Errorf("%s: Up asks for no epoch: %d, %v", name, n, e)
		}
	}
}
