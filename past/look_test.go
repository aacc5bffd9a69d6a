package past_test

import (
	"slices"
	"testing"

	"millpond/api"
	"millpond/past"
)

// P16.3: All goes by pages, of one page by PSNs, whatever the Firsts and the order in which they were made.
func TestAll(t *testing.T) {
	p, l := five(t)
	has(t, p, l...)
	l = full()
	turned := slices.Clone(l)
	slices.Reverse(turned)
	has(t, with(t, turned...), l...)
	for n := range turned {
		turned[n] = l[n*77%api.MaxMarks]
	}
	has(t, with(t, turned...), l...)
	for range past.New().All() {
		t.Error("a mark of none")
	}
}

// P16.3: All may be left behind each mark, and gone through again, also within itself.
func TestAllLeft(t *testing.T) {
	p, want := five(t)
	all := p.All()
	for many := 1; many <= 6; many++ {
		var got []api.Mark
		for m := range all {
			if got = append(got, m); len(got) == many {
				break
			}
		}
		if !slices.Equal(got, want[:min(many, 5)]) {
			t.Errorf("left behind %d: %v", many, got)
		}
		if !slices.Equal(slices.Collect(all), want) {
			t.Error("not the same when gone through again")
		}
	}
	times := 0
	for range all {
		for range all {
			if times++; !slices.Equal(slices.Collect(all), want) {
				t.Error("not the same within itself")
			}
		}
	}
	if times != 25 {
		t.Error(times)
	}
}

// P16.3: the marks as they are when going through begins: neither when All was called, nor as they become meanwhile.
func TestAllAsTheyAreWhenItBegins(t *testing.T) {
	for _, do := range []func(p *past.Past){
		func(p *past.Past) { p.Clear() },
		func(p *past.Past) { p.Discard(1, 5) },
		func(p *past.Past) { p.Discard(15, 1); p.Discard(1, 2); p.Discard(0, 7) },
		func(p *past.Past) { p.Mark(0, 8, 1); p.Mark(15, 9, 1); p.Mark(1, 1, 1); p.Mark(1, 9, 1) },
		func(p *past.Past) { p.Mark(0, 7, 1); p.Mark(1, 8, 1); p.Mark(15, 1, 1) },
		func(p *past.Past) { p.Discard(1, 8); p.Mark(1, 8, 77) },
	} {
		p, want := five(t)
		all := p.All()
		place := 0
		for m := range all {
			if m != want[place] {
				t.Errorf("%v, not %v", m, want[place])
			}
			place++
			do(p)
		}
		if place != len(want) {
			t.Errorf("%d marks", place)
		}
		if now := slices.Collect(all); !slices.Equal(now, slices.Collect(p.All())) || len(now) != p.Len() {
			t.Errorf("gone through again: %v", now)
		}
	}
	p := past.New()
	all := p.All()
	marks(t, p, mark(8, 1, 2), api.OK)
	if got := slices.Collect(all); !slices.Equal(got, []api.Mark{mark(8, 1, 2)}) {
		t.Errorf("made behind the call, ahead of the beginning: %v", got)
	}
	p.Clear()
	if got := slices.Collect(all); len(got) != 0 {
		t.Errorf("cleared behind the call, ahead of the beginning: %v", got)
	}
}

// P16.3: Has and Of of pages that have marks, that have none any more, that never had one, that may not be.
func TestHasAndOf(t *testing.T) {
	p, l := five(t)
	for page := range api.MaxPages {
		want := map[int][]api.Mark{0: l[:1], 1: l[1:4], 15: l[4:]}[page]
		if got := p.Of(page); !slices.Equal(got, want) || p.Has(page) != (len(want) > 0) {
			t.Errorf("the page %d: %v, %v", page, got, p.Has(page))
		}
	}
	for _, page := range fars {
		if len(p.Of(page)) != 0 || p.Has(page) {
			t.Errorf("the page %d: %v", page, p.Of(page))
		}
	}
	discards(t, p, 1, 7, 2)
	if got := p.Of(1); !slices.Equal(got, l[3:4]) || !p.Has(1) {
		t.Errorf("of those that are left: %v", got)
	}
	discards(t, p, 1, 8, 1)
	if got := p.Of(1); len(got) != 0 || p.Has(1) {
		t.Errorf("where none is left: %v", got)
	}
}

// P16.3: looking changes nothing.
func TestLookingChangesNothing(t *testing.T) {
	p, l := five(t)
	was := p.Copy()
	has(t, p, l...)
	p.Has(3)
	p.Of(3)
	if !past.Same(p, was) {
		t.Error("another one")
	}
}

// P16.3: what Of tells is the caller's own: it stays as it was, and what becomes of it is nothing to the marks.
func TestOfIsTheCallers(t *testing.T) {
	p, l := five(t)
	got, again := p.Of(1), p.Of(1)
	marks(t, p, mark(1, 5, 1), api.OK)
	discards(t, p, 1, 2, 1)
	if !slices.Equal(got, l[1:4]) {
		t.Errorf("%v", got)
	}
	got[0] = mark(9, 9, 9)
	_ = append(got[:1], mark(8, 8, 8), mark(7, 7, 7))
	if !slices.Equal(again, l[1:4]) {
		t.Errorf("another one of them: %v", again)
	}
	has(t, p, l[0], mark(1, 5, 1), l[3], l[4])
}

// P16.3: Len, ahead of and behind each mark, and each that is discarded.
func TestLen(t *testing.T) {
	p := past.New()
	for n, m := range full() {
		for range 2 {
			marks(t, p, m, api.OK)
			if p.Mark(m.Page, 0, 1); p.Len() != n+1 {
				t.Fatalf("%d marks: Len %d", n+1, p.Len())
			}
		}
	}
	for n, m := range full() {
		for _, many := range []int{1, 0} {
			if discards(t, p, m.Page, m.PSN, many); p.Len() != api.MaxMarks-n-1 {
				t.Fatalf("behind %d discarded: Len %d", n+1, p.Len())
			}
		}
	}
}
