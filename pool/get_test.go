package pool_test

import (
	"testing"

	"millpond/api"
	"millpond/pool"
)

// P15.2: Get, Look, Pin, Unpin and Pins of a page that no frame has, or that may not be: nothing, and nothing changes.
func TestOfNoFrame(t *testing.T) {
	for _, p := range []*pool.Pool{made(t, 3), with(t, 3, 4, 2), passed(t, 4, 2)} {
		was := p.Copy()
		for _, page := range append([]int{0, 1, 3, 5, api.MaxPages - 1}, fars...) {
			if f, e := p.Get(page); f != (api.Frame{}) || e != api.ErrNone {
				t.Errorf("Get(%d): %+v, %v", page, f, e)
			}
			if f, is := p.Look(page); f != (api.Frame{}) || is {
				t.Errorf("Look(%d): %+v, %v", page, f, is)
			}
			if a, b := p.Pin(page), p.Unpin(page); a != api.ErrNone || b != api.ErrNone || p.Pins(page) != 0 {
				t.Errorf("Pin(%d), Unpin, Pins: %v, %v, %d", page, a, b, p.Pins(page))
			}
		}
		if !pool.Same(p, was) {
			t.Error("it changed something")
		}
	}
}

// P15.2: Get and Look are the frame of that page, and not of another one.
func TestGetAndLook(t *testing.T) {
	p := made(t, api.MaxFrames)
	var all []api.Frame
	for page := range api.MaxPages {
		all = append(all, rich(page, page))
		sets(t, p, rich(api.MaxPages-1-page, api.MaxPages-1-page), api.OK)
	}
	has(t, p, 0, all...)
	gets(t, p, all...)
	has(t, p, 0, all...)
}

// P15.2: Get is a use; Look, Pin, Unpin and Pins are none.
func TestWhatIsAUse(t *testing.T) {
	p := passed(t, 5, 6)
	gets(t, p, shared(5))
	victims(t, p, 6, 5)
	p = passed(t, 5, 6)
	for range 3 {
		was := p.Copy()
		p.Look(5)
		p.Pins(5)
		if !pool.Same(p, was) {
			t.Error("looking changed something")
		}
		pins(t, p, 5, 5)
		unpins(t, p, 5, 5)
		if !pool.Same(p, was) {
			t.Error("pinned and unpinned, it is another one")
		}
	}
	victims(t, p, 5, 6)
	gets(t, p, shared(6))
	was := p.Copy()
	if gets(t, p, shared(6), shared(6)); !pool.Same(p, was) {
		t.Error("used once more is another one")
	}
}

// P15.2: Pin and Unpin over and over: as often as it was pinned it is unpinned, and then it is not pinned.
func TestPins(t *testing.T) {
	p := with(t, 3, 2, 9)
	was := p.Copy()
	for _, many := range []int{0, 1, 2, 300, 1000} {
		for n := range many {
			if pins(t, p, 9); p.Pins(9) != n+1 || p.Pins(2) != 0 {
				t.Fatalf("%d, %d", p.Pins(9), p.Pins(2))
			}
		}
		for n := range many {
			if unpins(t, p, 9); p.Pins(9) != many-1-n || p.Pins(2) != 0 {
				t.Fatalf("%d, %d", p.Pins(9), p.Pins(2))
			}
		}
		for range 2 {
			if e := p.Unpin(9); e != api.ErrNone || p.Pins(9) != 0 {
				t.Fatalf("%v, %d", e, p.Pins(9))
			}
		}
		if !pool.Same(p, was) {
			t.Fatal("another one")
		}
	}
	pins(t, p, 9)
	if p.Pins(9) != 1 {
		t.Error("Unpin more often than Pin took one ahead")
	}
}

// P15.2: Get of a page that is pinned is a use, too; it is one still when it is unpinned.
func TestGetPinned(t *testing.T) {
	p := passed(t, 5, 6, 7)
	pins(t, p, 5)
	gets(t, p, shared(5))
	victims(t, p, 6, 7, 6)
	unpins(t, p, 5)
	victims(t, p, 7, 6, 7, 5)
}
