package past_test

import (
	"slices"
	"testing"

	"millpond/api"
	"millpond/past"
)

// P16.1: pages, PSNs and Firsts at their bounds, each with each.
func TestMarkAtTheBounds(t *testing.T) {
	stamps := []int64{1, 2, 1 << 30, api.MaxStamp - 1, api.MaxStamp}
	for page := range api.MaxPages {
		for _, psn := range stamps {
			for _, first := range stamps {
				has(t, with(t, mark(page, psn, first)), mark(page, psn, first))
			}
		}
	}
}

// mayNot is marks that may not be, each by one of its numbers, and some by several.
func mayNot() []api.Mark {
	var l []api.Mark
	for _, page := range fars {
		l = append(l, mark(page, 5, 3), mark(page, 0, 0))
	}
	for _, n := range wrongs {
		l = append(l, mark(1, n, 3), mark(1, 5, n), mark(0, n, n), mark(api.MaxPages-1, n, 1), mark(2, 1, n))
	}
	return append(l, api.Mark{})
}

// P16.1: a mark that may not be is ErrArg, ahead of ErrFull, and changes nothing: where there is none, where its page has some, where there are as many as may be.
func TestMarkRefused(t *testing.T) {
	some, _ := five(t)
	for _, p := range []*past.Past{past.New(), with(t, mark(1, 5, 3)), some, with(t, full()...)} {
		was := p.Copy()
		for _, m := range mayNot() {
			if marks(t, p, m, api.ErrArg); !past.Same(p, was) {
				t.Fatalf("%v changed something", m)
			}
		}
	}
}

// P16.1: of one page and PSN there is one mark, and its First is the lesser one of both.
func TestMarkAgain(t *testing.T) {
	for _, had := range []int64{1, 2, 50, api.MaxStamp} {
		for _, first := range []int64{1, 2, 49, 50, 51, api.MaxStamp} {
			p, l := five(t)
			for _, first := range []int64{had, first, had, api.MaxStamp} {
				marks(t, p, mark(4, 5, first), api.OK)
			}
			has(t, p, slices.Insert(l, 4, mark(4, 5, min(had, first)))...)
		}
	}
	p, l := five(t)
	marks(t, p, mark(1, 5, 1), api.OK)
	l[2].First = 1
	has(t, p, l...)
}

// P16.1: marks of one PSN and other pages, of one page and other PSNs, are others, whatever their Firsts.
func TestMarkOthers(t *testing.T) {
	p := with(t, mark(1, 5, 3), mark(2, 5, 3), mark(1, 6, 3), mark(2, 4, 8), mark(0, 5, 1))
	has(t, p, mark(0, 5, 1), mark(1, 5, 3), mark(1, 6, 3), mark(2, 4, 8), mark(2, 5, 3))
	marks(t, p, mark(2, 5, 2), api.OK)
	has(t, p, mark(0, 5, 1), mark(1, 5, 3), mark(1, 6, 3), mark(2, 4, 8), mark(2, 5, 2))
}

// P16.1: as many marks as may be, in each of two ways over the pages; one more is ErrFull, and changes nothing; one that there is already is taken.
func TestMarkFull(t *testing.T) {
	var one []api.Mark
	for n := range api.MaxMarks {
		one = append(one, mark(6, int64(n+1), int64(n+2)))
	}
	for _, l := range [][]api.Mark{full(), one} {
		p := with(t, l[:api.MaxMarks-1]...)
		has(t, p, l[:api.MaxMarks-1]...)
		marks(t, p, l[api.MaxMarks-1], api.OK)
		has(t, p, l...)
		was := p.Copy()
		for page := range api.MaxPages {
			for _, m := range []api.Mark{mark(page, 1000, 1), mark(page, api.MaxStamp, api.MaxStamp)} {
				if marks(t, p, m, api.ErrFull); !past.Same(p, was) {
					t.Fatalf("%v changed something", m)
				}
			}
		}
		for at, m := range l {
			marks(t, p, m, api.OK)
			m.First++
			marks(t, p, m, api.OK)
			if at%5 == 0 {
				l[at].First = 1
				marks(t, p, l[at], api.OK)
			}
		}
		has(t, p, l...)
		discards(t, p, l[0].Page, l[0].PSN, 1)
		marks(t, p, mark(15, 1000, 1), api.OK)
		marks(t, p, l[0], api.ErrFull)
		has(t, p, append(slices.Clone(l[1:]), mark(15, 1000, 1))...)
	}
}

// P16.1: numbers that are apart by a power of two alone are other ones, or refused.
func TestMarkFarApart(t *testing.T) {
	var l []api.Mark
	for n := int64(1); n <= api.MaxStamp; n *= 2 {
		l = append(l, mark(3, n, n))
	}
	p := with(t, l...)
	has(t, p, l...)
	for _, m := range l {
		marks(t, p, mark(3, m.PSN+1<<32, m.First), api.ErrArg)
		marks(t, p, mark(3+1<<32, m.PSN, m.First), api.ErrArg)
		discards(t, p, 3, m.PSN, 1)
	}
	has(t, p)
}
