package pool_test

import (
	"math"
	"slices"
	"testing"

	"millpond/api"
	"millpond/pool"
)

// fars are pages that may not be.
var fars = []int{-1, api.MaxPages, api.MaxPages + 1, 1 << 32, 1<<32 + 1, math.MaxInt, math.MinInt}

// shared is a page's frame that has nothing but its mode.
func shared(page int) api.Frame { return api.Frame{Page: page, Mode: api.Shared} }

// rich is a page's frame that has something in each field, another one for each number.
func rich(page, number int) api.Frame {
	n := int64(number)
	v := api.Version{PSN: n + 1, Body: api.Body{byte(page), byte(number), api.BodySize - 1: byte(number + 1)}}
	return api.Frame{Page: page, Mode: api.Exclusive, Op: n + 2, First: n + 3, V: v, Dirty: number%2 == 0}
}

func made(t *testing.T, places int) *pool.Pool {
	t.Helper()
	p, e := pool.New(places)
	if p == nil || e != api.OK {
		t.Fatalf("New(%d): %v, %v", places, p, e)
	}
	return p
}

// with is a pool of that many places, and of frames of these pages, in the places from 0 on, all used.
func with(t *testing.T, places int, pages ...int) *pool.Pool {
	t.Helper()
	p := made(t, places)
	for _, page := range pages {
		sets(t, p, shared(page), api.OK)
	}
	return p
}

// passed is like with, but none was used, and the hand stands at 0.
func passed(t *testing.T, pages ...int) *pool.Pool {
	t.Helper()
	p := with(t, len(pages), pages...)
	victims(t, p, pages...)
	return p
}

func sets(t *testing.T, p *pool.Pool, f api.Frame, want api.Errno) {
	t.Helper()
	if e := p.Set(f); e != want {
		t.Fatalf("Set(%+v): %v, not %v", f, e, want)
	}
}

func gets(t *testing.T, p *pool.Pool, want ...api.Frame) {
	t.Helper()
	for _, w := range want {
		if f, e := p.Get(w.Page); f != w || e != api.OK {
			t.Fatalf("Get(%d): %+v, %v", w.Page, f, e)
		}
	}
}

func drops(t *testing.T, p *pool.Pool, want ...api.Frame) {
	t.Helper()
	for _, w := range want {
		if f, e := p.Drop(w.Page); f != w || e != api.OK {
			t.Fatalf("Drop(%d): %+v, %v", w.Page, f, e)
		}
	}
}

func pins(t *testing.T, p *pool.Pool, pages ...int) {
	t.Helper()
	for _, page := range pages {
		if e := p.Pin(page); e != api.OK {
			t.Fatalf("Pin(%d): %v", page, e)
		}
	}
}

func unpins(t *testing.T, p *pool.Pool, pages ...int) {
	t.Helper()
	for _, page := range pages {
		if e := p.Unpin(page); e != api.OK {
			t.Fatalf("Unpin(%d): %v", page, e)
		}
	}
}

// victims fails unless these are the next victims.
func victims(t *testing.T, p *pool.Pool, want ...int) {
	t.Helper()
	for place, w := range want {
		if page, is := p.Victim(); page != w || !is {
			t.Fatalf("the victim %d of %v: %d, %v", place, want, page, is)
		}
	}
}

// noVictim fails unless there is none, and the pool stays as it was.
func noVictim(t *testing.T, p *pool.Pool) {
	t.Helper()
	was := p.Copy()
	if page, is := p.Victim(); page != 0 || is {
		t.Fatalf("a victim: %d, %v", page, is)
	}
	if !pool.Same(p, was) {
		t.Fatal("no victim, but the pool is another one")
	}
}

// has fails unless the pool has these frames, which rise, and that much room.
func has(t *testing.T, p *pool.Pool, room int, want ...api.Frame) {
	t.Helper()
	if got := slices.Collect(p.All()); !slices.Equal(got, want) {
		t.Fatalf("All: %+v, not %+v", got, want)
	}
	if p.Len() != len(want) || p.Room() != room {
		t.Fatalf("Len %d, Room %d, not %d, %d", p.Len(), p.Room(), len(want), room)
	}
	for page := range api.MaxPages {
		var w api.Frame
		at := slices.IndexFunc(want, func(f api.Frame) bool { return f.Page == page })
		if at >= 0 {
			w = want[at]
		}
		if f, is := p.Look(page); f != w || is != (at >= 0) {
			t.Fatalf("Look(%d): %+v, %v", page, f, is)
		}
	}
}
