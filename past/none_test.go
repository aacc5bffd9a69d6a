package past_test

import (
	"math"
	"slices"
	"testing"

	"millpond/api"
	"millpond/past"
)

// P16.1, P16.2, P16.3: nil past images, and zero ones, in each call: ErrNil ahead of all, and no marks.
func TestNone(t *testing.T) {
	for _, p := range []*past.Past{nil, {}, new(past.Past)} {
		for range 2 {
			noneIsAsked(t, p)
		}
		for _, other := range []*past.Past{nil, {}, p} {
			if !past.Same(p, other) || !past.Same(other, p) {
				t.Error("two of none are not the same")
			}
		}
		for _, other := range []*past.Past{past.New(), with(t, mark(0, 1, 1))} {
			if past.Same(p, other) || past.Same(other, p) {
				t.Error("none is the same as one that is there")
			}
		}
	}
}

func noneIsAsked(t *testing.T, p *past.Past) {
	t.Helper()
	for _, page := range append([]int{0, 1, api.MaxPages - 1}, fars...) {
		for _, n := range append([]int64{1, api.MaxStamp}, wrongs...) {
			if a, b := p.Mark(page, n, 1), p.Mark(page, 1, n); a != api.ErrNil || b != api.ErrNil {
				t.Errorf("Mark of the page %d, by %d: %v, %v", page, n, a, b)
			}
			if many, e := p.Discard(page, n); many != 0 || e != api.ErrNil {
				t.Errorf("Discard(%d, %d): %d, %v", page, n, many, e)
			}
		}
		if p.Has(page) || len(p.Of(page)) != 0 {
			t.Errorf("the page %d has marks: %v", page, p.Of(page))
		}
	}
	if m, is := p.Oldest(); m != (api.Mark{}) || is {
		t.Errorf("Oldest: %v, %v", m, is)
	}
	if p.Len() != 0 || p.Clear() != 0 || p.Copy() != nil {
		t.Error("none has something")
	}
	if l := slices.Collect(p.All()); len(l) != 0 {
		t.Errorf("All: %v", l)
	}
	bounds(t, p, 20, 20)
	bounds(t, p, 4, 20, 9, 0, 4, -7)
	bounds(t, p, math.MaxInt64, math.MaxInt64, -1, 0)
	bounds(t, p, -3, -3, 1)
}

// P16.3: new ones have no marks, and are there.
func TestNew(t *testing.T) {
	p, q := past.New(), past.New()
	has(t, p)
	if p == q || !past.Same(p, q) {
		t.Error("two new ones")
	}
	marks(t, p, mark(2, 3, 4), api.OK)
	if has(t, q); past.Same(p, q) {
		t.Error("what one is asked is nothing to another one")
	}
}
