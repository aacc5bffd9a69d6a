package past_test

import (
	"slices"
	"testing"

	"millpond/api"
	"millpond/past"
)

// unlike fails unless two differ, each being the same as itself and as its copy.
func unlike(t *testing.T, what string, a, b *past.Past) {
	t.Helper()
	if past.Same(a, b) || past.Same(b, a) {
		t.Errorf("%s: the same", what)
	}
	for _, p := range []*past.Past{a, b} {
		if !past.Same(p, p) || !past.Same(p, p.Copy()) || !past.Same(p.Copy(), p) {
			t.Errorf("%s: not the same as it is", what)
		}
	}
}

// P16.3: marks that differ in one thing alone, of one mark and in each place of several.
func TestSame(t *testing.T) {
	unlike(t, "whether there is one", past.New(), with(t, mark(1, 1, 1)))
	_, l := five(t)
	for at := range l {
		for _, c := range []struct {
			what string
			do   func(m *api.Mark)
		}{
			{"a page", func(m *api.Mark) { m.Page = 9 }},
			{"a PSN", func(m *api.Mark) { m.PSN += 10 }},
			{"a far PSN", func(m *api.Mark) { m.PSN += 1 << 30 }},
			{"a First", func(m *api.Mark) { m.First++ }},
			{"a far First", func(m *api.Mark) { m.First += 1 << 30 }},
		} {
			other := slices.Clone(l)
			c.do(&other[at])
			unlike(t, c.what, with(t, l...), with(t, other...))
			unlike(t, c.what+" of one", with(t, l[at]), with(t, other[at]))
		}
		unlike(t, "one mark more", with(t, l...), with(t, slices.Delete(slices.Clone(l), at, at+1)...))
	}
	unlike(t, "which First is whose", with(t, mark(1, 2, 3), mark(1, 4, 5)), with(t, mark(1, 2, 5), mark(1, 4, 3)))
	unlike(t, "which PSN is whose", with(t, mark(1, 2, 3), mark(4, 5, 3)), with(t, mark(1, 5, 3), mark(4, 2, 3)))
	unlike(t, "the last of all", with(t, full()...), with(t, full()[:api.MaxMarks-1]...))
}

// P16.3: how it came about is no part of it.
func TestSameByOtherWays(t *testing.T) {
	a, l := five(t)
	b := with(t, full()[:100]...)
	b.Clear()
	for _, m := range l {
		marks(t, b, mark(m.Page, m.PSN, m.First+1), api.OK)
		marks(t, b, m, api.OK)
		marks(t, b, mark(3, m.PSN, m.First), api.OK)
	}
	discards(t, b, 3, api.MaxStamp, 5)
	if !past.Same(a, b) || !past.Same(b, a) {
		t.Error("not the same")
	}
	a.Clear()
	if !past.Same(a, past.New()) || !past.Same(past.New(), a) {
		t.Error("none any more is not as a new one")
	}
}

// P16.3: a copy goes on apart, both ways, in each call; a copy of a copy, too.
func TestCopy(t *testing.T) {
	calls := []func(p *past.Past){
		func(p *past.Past) { p.Mark(2, 2, 2) }, func(p *past.Past) { p.Mark(1, 5, 1) }, func(p *past.Past) { p.Mark(1, 6, 3) },
		func(p *past.Past) { p.Discard(1, 5) }, func(p *past.Past) { p.Discard(15, 1) }, func(p *past.Past) { p.Clear() },
	}
	for n, do := range calls {
		p, l := five(t)
		c := p.Copy()
		cc := c.Copy()
		if c == nil || c == p || !past.Same(c, p) {
			t.Fatal("a copy is another one")
		}
		do(c)
		has(t, p, l...)
		if has(t, cc, l...); past.Same(c, p) {
			t.Errorf("the call %d of a copy", n)
		}
		do(p)
		if has(t, cc, l...); !past.Same(p, c) {
			t.Errorf("the call %d of both", n)
		}
		p, l = five(t)
		c = p.Copy()
		do(p)
		if has(t, c, l...); past.Same(c, p) {
			t.Errorf("the call %d of the one that was copied", n)
		}
	}
}

// P16.3: a copy of one without marks is there; one of as many as may be is full.
func TestCopyOfNoneAndOfFull(t *testing.T) {
	p := past.New()
	c := p.Copy()
	if c == nil || c == p || !past.Same(c, p) {
		t.Fatal("a copy of no marks")
	}
	marks(t, c, mark(4, 4, 4), api.OK)
	has(t, p)
	has(t, c, mark(4, 4, 4))
	c = with(t, full()...).Copy()
	marks(t, c, mark(4, 4, 4), api.ErrFull)
	has(t, c, full()...)
}
