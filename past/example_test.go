package past_test

import (
	"testing"

	"millpond/api"
	"millpond/past"
)

// P16.1, P16.2, P16.3: the chapter's examples.
func TestExamples(t *testing.T) {
	p := past.New()
	marks(t, p, mark(16, 1, 1), api.ErrArg)
	marks(t, p, mark(1, 0, 1), api.ErrArg)
	marks(t, p, mark(1, 5, 3), api.OK)
	marks(t, p, mark(1, 8, 9), api.OK)
	marks(t, p, mark(1, 5, 4), api.OK)
	bounds(t, p, 3, 20)
	bounds(t, p, 2, 20, 0, 2)
	bounds(t, p, 2, 2)
	if m, is := p.Oldest(); m != mark(1, 5, 3) || !is {
		t.Error(m, is)
	}
	discards(t, p, 1, 6, 1)
	bounds(t, p, 9, 20)
	discards(t, p, 2, 9, 0)
	if !p.Has(1) || p.Len() != 1 {
		t.Error(p.Has(1), p.Len())
	}
}

// P16.1, P16.2, P16.3: what README.md shows.
func TestReadme(t *testing.T) {
	p := with(t, mark(7, 5, 3), mark(7, 8, 9), mark(4, 2, 11), mark(7, 5, 4))
	bounds(t, p, 3, 20)
	bounds(t, p, 2, 20, 0, 2)
	has(t, p, mark(4, 2, 11), mark(7, 5, 3), mark(7, 8, 9))
	c := p.Copy()
	discards(t, p, 7, 6, 1)
	bounds(t, p, 9, 20)
	if past.Same(c, p) || p.Clear() != 2 {
		t.Error("the copy, or how many there were")
	}
}
