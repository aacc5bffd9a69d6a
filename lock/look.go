package lock

import (
	"slices"

	"millpond/api"
)

// Book is all of it.
func (l *Lock) Book() api.Book {
	if l.none() {
		return api.Book{Exclusive: nobody, Owner: nobody}
	}
	return api.Book{
		Exclusive: l.exclusive,
		Owner:     l.owner,
		Shared:    l.shared().list(),
		Past:      l.past.list(),
		Ops:       l.ops,
		Line:      slices.Clone(l.line),
		Hand:      l.hand,
		Busy:      l.busy(),
		Op:        l.op,
	}
}

// shared are those that hold the page shared.
func (l *Lock) shared() nodes {
	shared := l.holds
	if l.exclusive != nobody {
		shared[l.exclusive] = false
	}
	return shared
}

// Holds is how a node holds it, if it does.
func (l *Lock) Holds(node int) (api.Mode, bool) {
	switch {
	case l.none() || !isNode(node) || !l.holds[node]:
		return 0, false
	case l.exclusive == node:
		return api.Exclusive, true
	}
	return api.Shared, true
}

// Idle tells whether nothing is in hand.
func (l *Lock) Idle() bool {
	return l.none() || !l.busy()
}

// Copy is another one that goes on apart.
func (l *Lock) Copy() *Lock {
	if l.none() {
		return nil
	}
	c, many := *l, len(l.line)
	c.line = l.line[:many:many] // what either one adds must not lie in the other one's room
	return &c
}

// Same tells whether two books are the same.
func Same(a, b *Lock) bool {
	if a.none() || b.none() {
		return a.none() && b.none()
	}
	return a.holds == b.holds && a.exclusive == b.exclusive && a.ops == b.ops &&
		a.owner == b.owner && a.past == b.past &&
		slices.Equal(a.line, b.line) && a.hand == b.hand && a.op == b.op
}
