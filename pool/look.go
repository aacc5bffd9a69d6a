package pool

import (
	"iter"
	"maps"

	"millpond/api"
)

// Look is a page's frame, if it has one; that is no use of it.
func (p *Pool) Look(page int) (api.Frame, bool) {
	s, wrong := p.find(page)
	if wrong != api.OK {
		return api.Frame{}, false
	}
	return s.frame, true
}

// Pins is how often a page's frame is pinned.
func (p *Pool) Pins(page int) int {
	s, wrong := p.find(page)
	if wrong != api.OK {
		return 0
	}
	return s.pins
}

// Len is how many places have a frame.
func (p *Pool) Len() int {
	if p.none() {
		return 0
	}
	return len(p.where)
}

// Room is how many places are free.
func (p *Pool) Room() int {
	if p.none() {
		return 0
	}
	return p.many - len(p.where)
}

// All goes over the frames, by rising pages. A copy is gone over, since the pool may go on meanwhile.
func (p *Pool) All() iter.Seq[api.Frame] {
	return func(yield func(api.Frame) bool) {
		for f := range p.Copy().rising() {
			if !yield(f) {
				return
			}
		}
	}
}

// rising goes over the frames of a pool that stays as it is.
func (p *Pool) rising() iter.Seq[api.Frame] {
	return func(yield func(api.Frame) bool) {
		for page := range api.MaxPages {
			if f, is := p.Look(page); is && !yield(f) {
				return
			}
		}
	}
}

// Copy is another pool that goes on apart.
func (p *Pool) Copy() *Pool {
	if p.none() {
		return nil
	}
	c := *p
	c.where = maps.Clone(p.where)
	return &c
}

// Same tells whether both have as many places, in each the same, and the same hand.
func Same(a, b *Pool) bool {
	if a.none() || b.none() {
		return a.none() && b.none()
	}
	return a.many == b.many && a.hand == b.hand && a.places == b.places
}
