package pool_test

import (
	"math"
	"testing"

	"millpond/api"
	"millpond/pool"
)

// P15.1, P15.2, P15.3, P15.4: a nil pool, and a zero one, in each call: ErrNil ahead of all, and nothing else.
func TestNone(t *testing.T) {
	for _, p := range []*pool.Pool{nil, {}, new(pool.Pool)} {
		for range 2 {
			for _, page := range append([]int{0, 1, api.MaxPages - 1}, fars...) {
				if e := p.Set(shared(page)); e != api.ErrNil {
					t.Errorf("Set(%d): %v", page, e)
				}
				if f, e := p.Get(page); f != (api.Frame{}) || e != api.ErrNil {
					t.Errorf("Get(%d): %+v, %v", page, f, e)
				}
				if f, e := p.Drop(page); f != (api.Frame{}) || e != api.ErrNil {
					t.Errorf("Drop(%d): %+v, %v", page, f, e)
				}
				if a, b := p.Pin(page), p.Unpin(page); a != api.ErrNil || b != api.ErrNil {
					t.Errorf("Pin(%d), Unpin: %v, %v", page, a, b)
				}
				if f, is := p.Look(page); f != (api.Frame{}) || is || p.Pins(page) != 0 {
					t.Errorf("Look(%d): %+v, %v", page, f, is)
				}
			}
			if e := p.Set(api.Frame{}); e != api.ErrNil {
				t.Error(e)
			}
			if page, is := p.Victim(); page != 0 || is {
				t.Error("a victim of none", page)
			}
			if p.Len() != 0 || p.Room() != 0 || p.Clear() != 0 || p.Copy() != nil {
				t.Error("none has something")
			}
			for f := range p.All() {
				t.Errorf("a frame of none: %+v", f)
			}
		}
		for _, other := range []*pool.Pool{nil, {}, p} {
			if !pool.Same(p, other) || !pool.Same(other, p) {
				t.Error("two of none are not the same")
			}
		}
		for _, other := range []*pool.Pool{made(t, 1), made(t, api.MaxFrames), with(t, 1, 0)} {
			if pool.Same(p, other) || pool.Same(other, p) {
				t.Error("none is the same as one that is there")
			}
		}
	}
}

// P15.1: New of all numbers of places that may be: as many are free.
func TestNew(t *testing.T) {
	for places := 1; places <= api.MaxFrames; places++ {
		p := made(t, places)
		has(t, p, places)
		noVictim(t, p)
		for page := range places {
			has := p.Room()
			if sets(t, p, shared(page), api.OK); p.Room() != has-1 {
				t.Errorf("%d places: %d, then %d", places, has, p.Room())
			}
		}
		if places < api.MaxPages {
			sets(t, p, shared(places), api.ErrFull)
		}
		if p.Room() != 0 || p.Len() != places {
			t.Errorf("%d places: Room %d, Len %d", places, p.Room(), p.Len())
		}
	}
}

// P15.1: New of numbers of places that may not be.
func TestNewRefused(t *testing.T) {
	for _, places := range []int{0, -1, api.MaxFrames + 1, 1 << 32, 1<<32 + 1, math.MaxInt, math.MinInt} {
		if p, e := pool.New(places); p != nil || e != api.ErrArg {
			t.Errorf("New(%d): %v, %v", places, p, e)
		}
	}
}

// P15.1: what one pool is asked is nothing to another one.
func TestPoolsApart(t *testing.T) {
	a, b := made(t, 2), made(t, 2)
	sets(t, a, shared(1), api.OK)
	if has(t, b, 2); pool.Same(a, b) {
		t.Error("the same")
	}
}
