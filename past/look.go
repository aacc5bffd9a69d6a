package past

import (
	"cmp"
	"iter"
	"maps"
	"slices"

	"millpond/api"
)

// Oldest is the first mark of those that have the least First.
func (p *Past) Oldest() (api.Mark, bool) {
	least := p.Bound(api.MaxStamp) // no mark's First is above that, so with any mark it is one of theirs
	return p.find(func(m api.Mark) bool { return m.First == least })
}

// Has tells whether a page has a mark.
func (p *Past) Has(page int) bool {
	_, has := p.find(func(m api.Mark) bool { return m.Page == page })
	return has
}

// Of is a page's marks, by rising PSNs.
func (p *Past) Of(page int) []api.Mark {
	return p.those(func(m api.Mark) bool { return m.Page == page })
}

// Len is how many marks there are.
func (p *Past) Len() int { return len(p.marks()) }

// All goes over the marks, in their order. They are listed when that begins, since they may change meanwhile.
func (p *Past) All() iter.Seq[api.Mark] {
	return func(yield func(api.Mark) bool) {
		for _, m := range p.those(func(api.Mark) bool { return true }) {
			if !yield(m) {
				return
			}
		}
	}
}

// find is the first mark, in their order, of which this is so.
func (p *Past) find(so func(api.Mark) bool) (found api.Mark, is bool) {
search:
	for m := range p.All() {
		if so(m) {
			found, is = m, true
			break search
		}
	}
	return found, is
}

// those is the marks of which this is so, in their order.
func (p *Past) those(so func(api.Mark) bool) []api.Mark {
	var l []api.Mark
	for k, first := range p.marks() {
		if m := (api.Mark{Page: k.page, PSN: k.psn, First: first}); so(m) {
			l = append(l, m)
		}
	}
	slices.SortFunc(l, func(a, b api.Mark) int {
		return cmp.Or(cmp.Compare(a.Page, b.Page), cmp.Compare(a.PSN, b.PSN))
	})
	return l
}

// Copy is another one that goes on apart.
func (p *Past) Copy() *Past {
	if p.none() {
		return nil
	}
	return &Past{firsts: maps.Clone(p.firsts)}
}

// Same tells whether both have the same marks.
func Same(a, b *Past) bool {
	return a.none() == b.none() && maps.Equal(a.marks(), b.marks())
}
