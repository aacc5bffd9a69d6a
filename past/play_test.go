package past_test

import (
	"math/rand"
	"slices"
	"testing"

	"millpond/api"
	"millpond/past"
)

// plain is marks by the chapter's words alone: no more than a list of them, in their order.
type plain []api.Mark

// place is where a mark of that page and PSN stands, or where it would.
func (l plain) place(page int, psn int64) int {
	at := 0
	for at < len(l) && (l[at].Page < page || l[at].Page == page && l[at].PSN < psn) {
		at++
	}
	return at
}

func (l plain) mark(m api.Mark) (plain, api.Errno) {
	at := l.place(m.Page, m.PSN)
	is := at < len(l) && l[at].Page == m.Page && l[at].PSN == m.PSN
	switch {
	case m.Page < 0 || m.Page > 15 || m.PSN < 1 || m.PSN > 2147483647 || m.First < 1 || m.First > 2147483647:
		return l, api.ErrArg
	case is:
		next := slices.Clone(l)
		next[at].First = min(m.First, l[at].First)
		return next, api.OK
	case len(l) == 256:
		return l, api.ErrFull
	}
	return slices.Insert(slices.Clone(l), at, m), api.OK
}

func (l plain) discard(page int, psn int64) plain {
	var left plain
	for _, m := range l {
		if m.Page != page || m.PSN > psn {
			left = append(left, m)
		}
	}
	return left
}

// both is past images, and marks by the words.
type both struct {
	p *past.Past
	l plain
}

func (b *both) copy() *both { return &both{b.p.Copy(), b.l} }

// asked does any call with both, and fails unless they answer the same.
func (b *both) asked(t *testing.T, r *rand.Rand, pages int, psns int64) {
	t.Helper()
	page, psn := r.Intn(pages+1)-r.Intn(2), r.Int63n(psns+1)
	was := b.p.Bound(1 << 40)
	switch call := r.Intn(60); {
	case call < 56:
		m := mark(page, psn, r.Int63n(50))
		l, want := b.l.mark(m)
		marks(t, b.p, m, want)
		b.l = l
		if b.p.Bound(1<<40) > was {
			t.Fatalf("the bound rose by Mark(%v)", m)
		}
	case call < 59 && page >= 0 && page < api.MaxPages:
		l := b.l.discard(page, psn)
		discards(t, b.p, page, psn, len(b.l)-len(l))
		b.l = l
		if b.p.Bound(1<<40) < was {
			t.Fatalf("the bound fell by Discard(%d, %d)", page, psn)
		}
	case call == 59 && r.Intn(9) == 0:
		if n := b.p.Clear(); n != len(b.l) {
			t.Fatalf("Clear: %d, not %d", n, len(b.l))
		}
		b.l = nil
	}
}

// bound fails unless the bound by any next LSN and given ones is the words' one, and at most that next one.
func (b *both) bound(t *testing.T, r *rand.Rand) {
	t.Helper()
	next := r.Int63n(60) - 2
	want := next
	var firsts []int64
	for range r.Intn(4) {
		firsts = append(firsts, r.Int63n(60)-5)
	}
	for _, first := range firsts {
		if first > 0 {
			want = min(want, first)
		}
	}
	for _, m := range b.l {
		want = min(want, m.First)
	}
	if bounds(t, b.p, want, next, firsts...); want > next {
		t.Fatal("above the next one")
	}
}

// P16.1, P16.2, P16.3, P16.4: any calls, held against the chapter's words; copies go on apart, and are the same just when the words say so.
func TestAnyCalls(t *testing.T) {
	r := rand.New(rand.NewSource(164))
	for round := range 40 {
		pages, psns := 1+r.Intn(api.MaxPages), int64(1+r.Intn(8))
		if round%4 == 0 {
			pages, psns = api.MaxPages, 40 // so that as many come together as may be
		}
		b := &both{past.New(), nil}
		kept := []*both{b.copy()}
		for range 900 {
			b.asked(t, r, pages, psns)
			b.bound(t, r)
			if r.Intn(20) == 0 {
				has(t, b.p, b.l...)
				kept = append(kept, b.copy())
			}
			one := kept[r.Intn(len(kept))]
			if r.Intn(10) == 0 {
				one.asked(t, r, pages, psns)
				has(t, one.p, one.l...)
			}
			if got, want := past.Same(one.p, b.p), slices.Equal(one.l, b.l); got != want {
				t.Fatalf("Same: %v, not %v", got, want)
			}
		}
	}
}

// P16.4: behind Discard of a page up to MaxStamp it has no mark, and each other page has what it had.
func TestDiscardOfAllOfAPage(t *testing.T) {
	for page := range api.MaxPages {
		p := with(t, full()...)
		marks(t, p, full()[0], api.OK)
		discards(t, p, page, api.MaxStamp, 16)
		if p.Has(page) || len(p.Of(page)) != 0 {
			t.Errorf("the page %d has a mark", page)
		}
		has(t, p, plain(full()).discard(page, api.MaxStamp)...)
	}
	p := with(t, mark(2, api.MaxStamp, 1), mark(2, 1, api.MaxStamp))
	discards(t, p, 2, api.MaxStamp, 2)
	has(t, p)
}
