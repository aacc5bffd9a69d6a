package pool_test

import (
	"slices"
	"testing"

	"millpond/api"
	"millpond/pool"
)

// five is a pool of six places with five frames, neither rising nor falling, and these frames rising.
func five(t *testing.T) (*pool.Pool, []api.Frame) {
	p := made(t, 6)
	for n, page := range []int{9, 0, 15, 4, 1} {
		sets(t, p, rich(page, n), api.OK)
	}
	return p, []api.Frame{rich(0, 1), rich(1, 4), rich(4, 3), rich(9, 0), rich(15, 2)}
}

// P15.3: All rises by pages, whatever the places, and is no use.
func TestAll(t *testing.T) {
	p, want := five(t)
	has(t, p, 1, want...)
	victims(t, p, 9, 0)
	was := p.Copy()
	if has(t, p, 1, want...); !pool.Same(p, was) {
		t.Error("going over them changed something")
	}
	for range made(t, 3).All() {
		t.Error("a frame of free places")
	}
	full := made(t, api.MaxFrames)
	want = nil
	for page := range api.MaxPages {
		sets(t, full, rich(page*7%api.MaxPages, page*7%api.MaxPages), api.OK)
		want = append(want, rich(page, page))
	}
	has(t, full, 0, want...)
}

// P15.3: All may be left behind each frame, and gone through again, also within itself.
func TestAllLeft(t *testing.T) {
	p, want := five(t)
	all := p.All()
	for many := 1; many <= 6; many++ {
		var got []api.Frame
		for f := range all {
			if got = append(got, f); len(got) == many {
				break
			}
		}
		if !slices.Equal(got, want[:min(many, 5)]) {
			t.Errorf("left behind %d: %+v", many, got)
		}
		if !slices.Equal(slices.Collect(all), want) {
			t.Error("not the same when gone through again")
		}
	}
	times := 0
	for range all {
		for range all {
			if times++; !slices.Equal(slices.Collect(all), want) {
				t.Error("not the same within itself")
			}
		}
	}
	if times != 25 {
		t.Error(times)
	}
}

// P15.3: the frames as they are when going through begins: neither when All was called, nor as they become meanwhile.
func TestAllAsTheyAreWhenItBegins(t *testing.T) {
	for _, do := range []func(p *pool.Pool){
		func(p *pool.Pool) { p.Clear() },
		func(p *pool.Pool) { p.Drop(15); p.Drop(1); p.Drop(0) },
		func(p *pool.Pool) { p.Set(rich(15, 9)); p.Set(rich(0, 9)); p.Set(rich(2, 9)) },
		func(p *pool.Pool) { p.Victim(); p.Get(4); p.Pin(9) },
		func(p *pool.Pool) { p.Drop(4); p.Set(rich(14, 9)); p.Drop(9); p.Set(rich(5, 9)) },
	} {
		p, want := five(t)
		all := p.All()
		place := 0
		for f := range all {
			if f != want[place] {
				t.Errorf("%+v, not %+v", f, want[place])
			}
			place++
			do(p)
		}
		if place != len(want) {
			t.Errorf("%d frames", place)
		}
		if now := slices.Collect(all); !slices.Equal(now, slices.Collect(p.All())) || len(now) != p.Len() {
			t.Errorf("gone through again: %+v", now)
		}
	}
	p := made(t, 2)
	all := p.All()
	sets(t, p, rich(8, 1), api.OK)
	if got := slices.Collect(all); !slices.Equal(got, []api.Frame{rich(8, 1)}) {
		t.Errorf("set behind the call, ahead of the beginning: %+v", got)
	}
}
