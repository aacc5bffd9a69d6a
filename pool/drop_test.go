package pool_test

import (
	"testing"

	"millpond/api"
	"millpond/pool"
)

// P15.1: Drop of a page that no frame has, or that may not be, is ErrNone, and changes nothing.
func TestDropNone(t *testing.T) {
	for _, p := range []*pool.Pool{made(t, 3), with(t, 3, 4, 2), passed(t, 4, 2)} {
		was := p.Copy()
		for _, page := range append([]int{0, 1, 3, 5, api.MaxPages - 1}, fars...) {
			if f, e := p.Drop(page); f != (api.Frame{}) || e != api.ErrNone {
				t.Errorf("Drop(%d): %+v, %v", page, f, e)
			}
		}
		if !pool.Same(p, was) {
			t.Error("it changed something")
		}
	}
}

// P15.1: Drop frees the place, pinned or not, used or not; a second one is ErrNone.
func TestDrop(t *testing.T) {
	for _, many := range []int{0, 1, 5} {
		p := made(t, 3)
		sets(t, p, rich(6, 1), api.OK)
		sets(t, p, rich(1, 2), api.OK)
		for range many {
			pins(t, p, 6)
		}
		drops(t, p, rich(6, 1))
		if f, e := p.Drop(6); f != (api.Frame{}) || e != api.ErrNone {
			t.Errorf("a second time: %+v, %v", f, e)
		}
		if has(t, p, 2, rich(1, 2)); p.Pins(6) != 0 {
			t.Error("pins of a page that is gone")
		}
		if e := p.Unpin(6); e != api.ErrNone {
			t.Error(e)
		}
		drops(t, p, rich(1, 2))
		if has(t, p, 3); !pool.Same(p, made(t, 3)) {
			t.Error("not free as they were at first")
		}
	}
}

// P15.1: Drop leaves the hand, and all others, where they are.
func TestDropLeavesTheHand(t *testing.T) {
	p := passed(t, 0, 1, 2, 3)
	victims(t, p, 0, 1)
	gets(t, p, shared(3))
	pins(t, p, 0)
	drops(t, p, shared(1))
	victims(t, p, 2, 2, 3) // the hand stood at 2, 3 was used, 0 is pinned
	if p.Pins(0) != 1 {
		t.Error(p.Pins(0))
	}
}

// P15.1: Clear ahead of and behind pins and victims: all places are free, the hand stands at 0; how many had a frame.
func TestClear(t *testing.T) {
	for _, c := range []struct {
		what string
		p    *pool.Pool
		do   func(p *pool.Pool)
		had  int
	}{
		{"a new one", made(t, 4), func(p *pool.Pool) {}, 0},
		{"some frames", with(t, 4, 7, 1), func(p *pool.Pool) {}, 2},
		{"all frames", with(t, 4, 7, 1, 15, 0), func(p *pool.Pool) {}, 4},
		{"pins", with(t, 4, 7, 1, 15, 0), func(p *pool.Pool) { pins(t, p, 7, 0, 0) }, 4},
		{"victims", with(t, 4, 7, 1, 15, 0), func(p *pool.Pool) { victims(t, p, 7, 1) }, 4},
		{"all are gone", with(t, 4, 7, 1), func(p *pool.Pool) { victims(t, p, 7, 1, 7); drops(t, p, shared(1), shared(7)) }, 0},
		{"both", with(t, 4, 7, 1, 15), func(p *pool.Pool) { pins(t, p, 7); victims(t, p, 1, 15, 1); drops(t, p, shared(15)) }, 2},
	} {
		c.do(c.p)
		if had := c.p.Clear(); had != c.had {
			t.Errorf("%s: %d had a frame", c.what, had)
		}
		has(t, c.p, 4)
		if !pool.Same(c.p, made(t, 4)) {
			t.Errorf("%s: not as a new one", c.what)
		}
		if had := c.p.Clear(); had != 0 || c.p.Room() != 4 {
			t.Errorf("%s: %d a second time", c.what, had)
		}
		for _, page := range []int{3, 7, 4} {
			sets(t, c.p, shared(page), api.OK)
		}
		if c.p.Pins(7) != 0 {
			t.Errorf("%s: pinned yet", c.what)
		}
		victims(t, c.p, 3, 7, 4, 3)
	}
}
