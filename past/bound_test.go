package past_test

import (
	"math"
	"testing"

	"millpond/api"
	"millpond/past"
)

// P16.2: no given LSNs; a next one above, at and below all marks', and of 0 and below.
func TestBoundOfNext(t *testing.T) {
	p, _ := five(t)
	for _, next := range []int64{4, 20, api.MaxStamp, api.MaxStamp + 1, math.MaxInt64} {
		bounds(t, p, 3, next)
		bounds(t, p, 3, next, []int64{}...)
	}
	for _, next := range []int64{3, 2, 1, 0, -1, math.MinInt64} {
		bounds(t, p, next, next)
		bounds(t, p, next, next, 3, 50)
	}
}

// P16.2: given LSNs of 0 and below are none; others below all marks', between, above; in any place.
func TestBoundOfGiven(t *testing.T) {
	p, _ := five(t)
	for _, c := range []struct {
		want   int64
		firsts []int64
	}{
		{3, []int64{0}}, {3, []int64{-1}}, {3, []int64{math.MinInt64, 0, -5}},
		{1, []int64{1}}, {2, []int64{2}}, {3, []int64{3}}, {3, []int64{4}}, {3, []int64{math.MaxInt64, 9, 20}},
		{2, []int64{2, 9, 0}}, {2, []int64{9, 2, 0}}, {2, []int64{0, 9, 2}}, {1, []int64{2, -1, 1, 2, 0}},
	} {
		bounds(t, p, c.want, 20, c.firsts...)
		bounds(t, p, min(c.want, 2), 2, c.firsts...)
	}
}

// P16.2: without marks the bound goes by what is given alone.
func TestBoundWithoutMarks(t *testing.T) {
	cleared, _ := five(t)
	cleared.Clear()
	for _, p := range []*past.Past{nil, {}, past.New(), cleared} {
		bounds(t, p, 20, 20)
		bounds(t, p, 20, 20, 0, -4, 20, 21)
		bounds(t, p, 6, 20, 8, 6, 7)
		bounds(t, p, 0, 0, 8)
		bounds(t, p, -9, -9, -20, 4)
		bounds(t, p, math.MaxInt64, math.MaxInt64)
		bounds(t, p, math.MinInt64, math.MinInt64, 1)
	}
}

// P16.2: the bound goes by each mark, whatever its page and PSN, and changes nothing, also not what was handed in.
func TestBoundOfEachMark(t *testing.T) {
	for at := range api.MaxMarks {
		l := full()
		l[at].First = 7
		p := with(t, l...)
		was := p.Copy()
		firsts := []int64{9, 0, -3, 8}
		bounds(t, p, 7, 2000, firsts...)
		bounds(t, p, 6, 6, firsts...)
		if m, is := p.Oldest(); m != l[at] || !is {
			t.Fatalf("Oldest: %v, %v, not %v", m, is, l[at])
		}
		if [4]int64(firsts) != [4]int64{9, 0, -3, 8} || !past.Same(p, was) {
			t.Fatal("it changed something")
		}
	}
}

// P16.2: of several of the least First the first one in their order: by pages, then by PSNs; not by how they were made.
func TestOldestOfSeveral(t *testing.T) {
	order := []api.Mark{mark(2, 9, 4), mark(2, 10, 4), mark(3, 1, 4), mark(3, 2, 4), mark(15, 1, 4)}
	above := []api.Mark{mark(0, 1, 5), mark(2, 8, 6), mark(4, 1, api.MaxStamp)}
	for from := range order {
		for turn := range len(order) - from {
			p := with(t, above...)
			for n := range len(order) - from {
				marks(t, p, order[from+(n+turn)%(len(order)-from)], api.OK)
			}
			if m, is := p.Oldest(); m != order[from] || !is {
				t.Errorf("%v, %v, not %v", m, is, order[from])
			}
		}
	}
}

// P16.2: the least First may be any, up to the greatest; where there is no mark there is nothing.
func TestOldest(t *testing.T) {
	for _, first := range []int64{1, 2, api.MaxStamp - 1, api.MaxStamp} {
		p := with(t, mark(5, api.MaxStamp, api.MaxStamp), mark(7, 3, first))
		want := mark(7, 3, first)
		if first == api.MaxStamp {
			want = mark(5, api.MaxStamp, api.MaxStamp)
		}
		if m, is := p.Oldest(); m != want || !is {
			t.Errorf("%v, %v, not %v", m, is, want)
		}
		discards(t, p, 5, api.MaxStamp, 1)
		has(t, p, mark(7, 3, first))
		discards(t, p, 7, 3, 1)
		if m, is := p.Oldest(); m != (api.Mark{}) || is {
			t.Errorf("of none: %v, %v", m, is)
		}
	}
}
