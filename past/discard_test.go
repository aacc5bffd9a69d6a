package past_test

import (
	"math"
	"slices"
	"testing"

	"millpond/api"
	"millpond/past"
)

// P16.1: Discard of each page up to any PSN: that page's marks up to it are gone, the others are what they were; how many.
func TestDiscard(t *testing.T) {
	for page := range api.MaxPages {
		for _, psn := range []int64{math.MinInt64, -1, 0, 1, 2, 3, 4, 5, 6, 7, 8, 9, api.MaxStamp - 1, api.MaxStamp, api.MaxStamp + 1, 1<<32 + 1, math.MaxInt64} {
			p, l := five(t)
			left := slices.DeleteFunc(slices.Clone(l), func(m api.Mark) bool { return m.Page == page && m.PSN <= psn })
			discards(t, p, page, psn, len(l)-len(left))
			has(t, p, left...)
			discards(t, p, page, psn, 0)
			has(t, p, left...)
		}
	}
}

// P16.1: a mark of the greatest PSN, and one of the least.
func TestDiscardAtTheBounds(t *testing.T) {
	low, high := mark(9, 1, 1), mark(9, api.MaxStamp, api.MaxStamp)
	p := with(t, high, low)
	discards(t, p, 9, 0, 0)
	discards(t, p, 9, 1, 1)
	has(t, p, high)
	discards(t, p, 9, api.MaxStamp-1, 0)
	has(t, p, high)
	discards(t, p, 9, api.MaxStamp, 1)
	has(t, p)
}

// P16.1: a page that may not be is ErrArg, whatever the PSN, and changes nothing.
func TestDiscardRefused(t *testing.T) {
	some, _ := five(t)
	for _, p := range []*past.Past{past.New(), some, with(t, full()...)} {
		was := p.Copy()
		for _, page := range fars {
			for _, psn := range append([]int64{1, 5, api.MaxStamp}, wrongs...) {
				if n, e := p.Discard(page, psn); n != 0 || e != api.ErrArg || !past.Same(p, was) {
					t.Fatalf("Discard(%d, %d): %d, %v", page, psn, n, e)
				}
			}
		}
	}
}

// P16.1: of as many marks as may be, some at once; there is room again for as many.
func TestDiscardOfFull(t *testing.T) {
	l := full()
	p := with(t, l...)
	discards(t, p, 5, api.MaxStamp, 16)
	discards(t, p, 6, 3*16-1, 15)
	l = slices.Concat(l[:5*16], l[6*16+15:])
	has(t, p, l...)
	for n := range int64(31) {
		marks(t, p, mark(0, 500+n, 1), api.OK)
	}
	marks(t, p, mark(0, 600, 1), api.ErrFull)
}

// P16.1: what was discarded may be marked again, by any First: nothing of the other mark is left.
func TestMarkBehindDiscard(t *testing.T) {
	for _, first := range []int64{1, 3, 4, api.MaxStamp} {
		p := with(t, mark(1, 5, 3), mark(1, 8, 9))
		discards(t, p, 1, 5, 1)
		marks(t, p, mark(1, 5, first), api.OK)
		has(t, p, mark(1, 5, first), mark(1, 8, 9))
		p.Clear()
		marks(t, p, mark(1, 8, first), api.OK)
		has(t, p, mark(1, 8, first))
	}
}

// P16.1: Clear of none, of some, of as many as may be: there is none any more, and it goes on as a new one.
func TestClear(t *testing.T) {
	some, l := five(t)
	for _, c := range []struct {
		p   *past.Past
		had int
	}{{past.New(), 0}, {with(t, mark(3, 1, 1)), 1}, {some, len(l)}, {with(t, full()...), api.MaxMarks}} {
		for _, had := range []int{c.had, 0, 0} {
			if n := c.p.Clear(); n != had {
				t.Errorf("Clear: %d, not %d", n, had)
			}
			if has(t, c.p); !past.Same(c.p, past.New()) {
				t.Error("not as a new one")
			}
		}
		for _, m := range full() {
			marks(t, c.p, m, api.OK)
		}
		has(t, c.p, full()...)
	}
}
