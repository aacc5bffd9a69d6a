package pool_test

import (
	"math"
	"testing"

	"millpond/api"
	"millpond/pool"
)

// unlike fails unless two differ, each being the same as itself and as its copy.
func unlike(t *testing.T, what string, a, b *pool.Pool) {
	t.Helper()
	if pool.Same(a, b) || pool.Same(b, a) {
		t.Errorf("%s: the same", what)
	}
	for _, p := range []*pool.Pool{a, b} {
		if !pool.Same(p, p) || !pool.Same(p, p.Copy()) || !pool.Same(p.Copy(), p) {
			t.Errorf("%s: not the same as it is", what)
		}
	}
}

// after is the pool, when this was done to it.
func after(p *pool.Pool, do func(p *pool.Pool)) *pool.Pool {
	do(p)
	return p
}

// P15.4: pools that differ in one thing alone.
func TestSame(t *testing.T) {
	unlike(t, "the number of places", made(t, 2), made(t, 3))
	unlike(t, "the number of places, with frames", with(t, 2, 1, 5), with(t, 3, 1, 5))
	unlike(t, "all places", made(t, 1), made(t, api.MaxFrames))
	unlike(t, "whether it is free", with(t, 2, 1), made(t, 2))
	unlike(t, "the last one is free", with(t, 2, 1, 5), with(t, 2, 1))
	unlike(t, "a page", with(t, 2, 1, 5), with(t, 2, 1, 6))
	unlike(t, "places", with(t, 2, 1, 5), with(t, 2, 5, 1))
	unlike(t, "pins", with(t, 2, 1, 5), after(with(t, 2, 1, 5), func(p *pool.Pool) { p.Pin(5) }))
	unlike(t, "how often pinned", after(with(t, 2, 1), func(p *pool.Pool) { p.Pin(1) }), after(with(t, 2, 1), func(p *pool.Pool) { p.Pin(1); p.Pin(1) }))
	unlike(t, "which is pinned", after(with(t, 2, 1, 5), func(p *pool.Pool) { p.Pin(1) }), after(with(t, 2, 1, 5), func(p *pool.Pool) { p.Pin(5) }))
	unlike(t, "whether it was used", passed(t, 1, 5), after(passed(t, 1, 5), func(p *pool.Pool) { p.Get(5) }))
	unlike(t, "all were used", passed(t, 1, 5), with(t, 2, 1, 5))
	unlike(t, "the hand", passed(t, 1, 5), after(passed(t, 1, 5), func(p *pool.Pool) { p.Victim() }))
}

// P15.4: one place that is free, ahead of, between and behind others.
func TestSameOfPlaces(t *testing.T) {
	for a := range 4 {
		for b := range 4 {
			one := after(with(t, 4, 0, 1, 2, 3), func(p *pool.Pool) { p.Drop(a); p.Set(shared(9)); p.Drop((a + 1) % 4) })
			other := after(with(t, 4, 0, 1, 2, 3), func(p *pool.Pool) { p.Drop(b); p.Set(shared(9)); p.Drop((b + 1) % 4) })
			if pool.Same(one, other) != (a == b) {
				t.Errorf("%d, %d", a, b)
			}
		}
	}
}

// P15.4: the hand alone, where nothing else tells of it: all places are free.
func TestSameOfTheHandAlone(t *testing.T) {
	var l []*pool.Pool
	for hand := range 3 {
		p := passed(t, 0, 1, 2)
		for page := range hand {
			victims(t, p, page)
		}
		drops(t, p, shared(0), shared(1), shared(2))
		l = append(l, p)
	}
	for a, one := range l {
		for b, other := range l {
			if pool.Same(one, other) != (a == b) {
				t.Errorf("%d, %d", a, b)
			}
		}
	}
	if !pool.Same(l[0], made(t, 3)) {
		t.Error("the hand at 0 is a new one's")
	}
	l[2].Clear()
	if !pool.Same(l[2], made(t, 3)) {
		t.Error("Clear is a new one's")
	}
}

// P15.4: each field of a frame, and each byte of its version.
func TestSameOfFrames(t *testing.T) {
	of := func(f api.Frame) *pool.Pool {
		p := made(t, 2)
		sets(t, p, f, api.OK)
		return p
	}
	f := rich(3, 4)
	changes := []func(f *api.Frame){
		func(f *api.Frame) { f.Page = 4 }, func(f *api.Frame) { f.Mode = api.Shared }, func(f *api.Frame) { f.Op++ },
		func(f *api.Frame) { f.Op += 1 << 32 }, func(f *api.Frame) { f.First++ }, func(f *api.Frame) { f.V.PSN++ }, func(f *api.Frame) { f.Dirty = !f.Dirty },
	}
	for at := range api.BodySize {
		changes = append(changes, func(f *api.Frame) { f.V.Body[at] ^= 0x80 })
	}
	for _, do := range changes {
		other := f
		do(&other)
		unlike(t, "a frame", of(f), of(other))
	}
	if !pool.Same(of(f), of(f)) {
		t.Error("the same frame")
	}
}

// P15.4: how it came about is no part of it.
func TestSameByOtherWays(t *testing.T) {
	a := after(with(t, 3, 7, 1), func(p *pool.Pool) { p.Pin(7) })
	b := after(made(t, 3), func(p *pool.Pool) {
		for _, page := range []int{9, 1, 4} {
			p.Set(rich(page, 1))
			p.Pin(page)
		}
		p.Drop(4)
		p.Drop(9)
		p.Set(shared(7))
		p.Pin(7)
		p.Unpin(1)
		p.Set(shared(1))
	})
	if !pool.Same(a, b) || !pool.Same(b, a) {
		t.Error("not the same")
	}
}

// P15.4: a copy goes on apart, both ways, in each call; a copy of a copy, too.
func TestCopy(t *testing.T) {
	calls := []func(p *pool.Pool){
		func(p *pool.Pool) { p.Set(rich(4, 7)) }, func(p *pool.Pool) { p.Set(shared(8)) }, func(p *pool.Pool) { p.Get(9) },
		func(p *pool.Pool) { p.Drop(15) }, func(p *pool.Pool) { p.Pin(1) }, func(p *pool.Pool) { p.Unpin(0) },
		func(p *pool.Pool) { p.Victim() }, func(p *pool.Pool) { p.Clear() },
	}
	start := func() *pool.Pool {
		p, _ := five(t)
		victims(t, p, 9, 0)
		pins(t, p, 0, 4)
		return p
	}
	for n, do := range calls {
		p := start()
		c := p.Copy()
		cc := c.Copy()
		if c == p || !pool.Same(c, p) || !pool.Same(c, start()) {
			t.Fatal("a copy is another one")
		}
		if do(c); !pool.Same(p, start()) || !pool.Same(cc, start()) || pool.Same(c, p) {
			t.Errorf("the call %d of a copy", n)
		}
		if do(p); !pool.Same(p, c) || !pool.Same(cc, start()) {
			t.Errorf("the call %d of both", n)
		}
		p = start()
		c = p.Copy()
		if do(p); !pool.Same(c, start()) || pool.Same(c, p) {
			t.Errorf("the call %d of the one that was copied", n)
		}
	}
}

// P15.4: a copy has the pages' places, the hand and all: both go on alike.
func TestCopyGoesOnAlike(t *testing.T) {
	p, want := five(t)
	victims(t, p, 9, 0, 15)
	pins(t, p, 1)
	c := p.Copy()
	has(t, c, 1, want...)
	for _, q := range []*pool.Pool{p, c} {
		victims(t, q, 4, 9, 0)
		drops(t, q, rich(0, 1))
		sets(t, q, shared(8), api.OK)
		victims(t, q, 15, 4, 9, 15, 4, 9, 8)
		if q.Pins(1) != 1 {
			t.Error(q.Pins(1))
		}
	}
	if !pool.Same(p, c) {
		t.Error("they went on unlike")
	}
	if q := made(t, 2).Copy(); q == nil || q.Room() != 2 || q.Set(api.Frame{Page: math.MaxInt}) != api.ErrArg {
		t.Error("a copy of free places")
	}
}
