package past_test

import (
	"math"
	"slices"
	"testing"

	"millpond/api"
	"millpond/past"
)

// fars are pages that may not be.
var fars = []int{-1, api.MaxPages, api.MaxPages + 1, 1 << 32, 1<<32 + 1, math.MaxInt, math.MinInt}

// wrongs are PSNs, and LSNs, that may not be.
var wrongs = []int64{0, -1, api.MaxStamp + 1, 1 << 32, 1<<32 + 1, math.MaxInt64, math.MinInt64}

func mark(page int, psn, first int64) api.Mark { return api.Mark{Page: page, PSN: psn, First: first} }

// with is past images of these marks.
func with(t *testing.T, l ...api.Mark) *past.Past {
	t.Helper()
	p := past.New()
	if p == nil {
		t.Fatal("New is nil")
	}
	for _, m := range l {
		marks(t, p, m, api.OK)
	}
	return p
}

// five is past images of five marks, made neither rising nor falling, and these marks in their order.
func five(t *testing.T) (*past.Past, []api.Mark) {
	t.Helper()
	l := []api.Mark{mark(0, 7, 20), mark(1, 2, 30), mark(1, 5, 3), mark(1, 8, 9), mark(15, 1, 3)}
	return with(t, l[3], l[0], l[4], l[2], l[1]), l
}

// full is as many marks as may be, of each page as many, in their order.
func full() []api.Mark {
	var l []api.Mark
	for n := range api.MaxMarks {
		each := api.MaxMarks / api.MaxPages
		l = append(l, mark(n/each, int64(3*(n%each)+3), int64(1000-n)))
	}
	return l
}

func marks(t *testing.T, p *past.Past, m api.Mark, want api.Errno) {
	t.Helper()
	if e := p.Mark(m.Page, m.PSN, m.First); e != want {
		t.Fatalf("Mark(%v): %v, not %v", m, e, want)
	}
}

func discards(t *testing.T, p *past.Past, page int, psn int64, want int) {
	t.Helper()
	if n, e := p.Discard(page, psn); n != want || e != api.OK {
		t.Fatalf("Discard(%d, %d): %d, %v, not %d", page, psn, n, e, want)
	}
}

// bounds fails unless the bound by these given LSNs is that.
func bounds(t *testing.T, p *past.Past, want, next int64, firsts ...int64) {
	t.Helper()
	if got := p.Bound(next, firsts...); got != want {
		t.Fatalf("Bound(%d, %v): %d, not %d", next, firsts, got, want)
	}
}

// has fails unless there are these marks, which stand in their order, whatever tells of them.
func has(t *testing.T, p *past.Past, want ...api.Mark) {
	t.Helper()
	if got := slices.Collect(p.All()); !slices.Equal(got, want) {
		t.Fatalf("All: %v, not %v", got, want)
	}
	if p.Len() != len(want) {
		t.Fatalf("Len: %d, not %d", p.Len(), len(want))
	}
	for page := range api.MaxPages {
		var of []api.Mark
		for _, m := range want {
			if m.Page == page {
				of = append(of, m)
			}
		}
		if got := p.Of(page); !slices.Equal(got, of) || p.Has(page) != (len(of) > 0) {
			t.Fatalf("Of(%d): %v, not %v; Has %v", page, got, of, p.Has(page))
		}
	}
	least := int64(api.MaxStamp) + 1
	var oldest api.Mark
	for _, m := range want {
		if m.First < least {
			least, oldest = m.First, m
		}
	}
	if got, is := p.Oldest(); got != oldest || is != (len(want) > 0) {
		t.Fatalf("Oldest: %v, %v, not %v", got, is, oldest)
	}
	bounds(t, p, least, api.MaxStamp+1)
}
