package lease

import "millpond/api"

// Watch is a node's over the others. One without nodes is a zero one, and as nil.
type Watch struct {
	nodes, patience int
	looks           [api.MaxNodes]look // by nodes; zero of one that was not looked at, so that watches are compared whole
}

// look is the last one at a node.
type look struct {
	looked bool // a lease of zeros may be said, too
	said   api.Lease
	age    int
}

// New is a watch that has not looked at anybody.
func New(nodes, patience int) (*Watch, api.Errno) {
	if nodes < 1 || nodes > api.MaxNodes || patience < 1 || patience > api.MaxPatience {
		return nil, api.ErrArg
	}
	return &Watch{nodes: nodes, patience: patience}, api.OK
}

// Look looks at what a node says: is it suspected?
func (w *Watch) Look(node int, l api.Lease) (bool, api.Errno) {
	switch {
	case w.none():
		return false, api.ErrNil
	case !w.has(node) || !may(l):
		return false, api.ErrArg
	}
	now := look{looked: true, said: l}
	if last := w.looks[node]; last.looked && last.said == l {
		now.age = last.age + 1
	}
	w.looks[node] = now
	return now.age >= w.patience, api.OK
}

// Age is how often in a row the node said the same since it said so first.
func (w *Watch) Age(node int) int {
	if !w.has(node) {
		return 0
	}
	return w.looks[node].age
}

// Said is what the node said at the last look, if there was one.
func (w *Watch) Said(node int) (api.Lease, bool) {
	if !w.has(node) {
		return api.Lease{}, false
	}
	last := w.looks[node]
	return last.said, last.looked
}

// Suspected are those whose age is the patience or more, rising.
func (w *Watch) Suspected() []int {
	var l []int
	w.tellSuspected(func(node int) { l = append(l, node) })
	return l
}

// Forget lets the node be one that was not looked at.
func (w *Watch) Forget(node int) api.Errno {
	switch {
	case w.none():
		return api.ErrNil
	case !w.has(node):
		return api.ErrArg
	}
	w.looks[node] = look{}
	return api.OK
}

// Clear lets nobody be one that was looked at.
func (w *Watch) Clear() api.Errno {
	if w.none() {
		return api.ErrNil
	}
	w.looks = [api.MaxNodes]look{}
	return api.OK
}

// Copy is another watch that goes on apart.
func (w *Watch) Copy() *Watch {
	if w.none() {
		return nil
	}
	c := *w
	return &c
}

// Same tells whether both have the same patience, nodes and looks.
func Same(a, b *Watch) bool {
	if a.none() || b.none() {
		return a.none() && b.none()
	}
	return *a == *b
}

// tellSuspected tells each one whose age has come up to the patience, rising. Who was not looked at has not, as there is no patience of 0.
func (w *Watch) tellSuspected(tell func(node int)) {
	if w.none() {
		return
	}
nodes:
	for node := range w.nodes {
		if w.looks[node].age < w.patience {
			continue nodes
		}
		tell(node)
	}
}

func (w *Watch) none() bool { return w == nil || w.nodes == 0 }

func (w *Watch) has(node int) bool { return !w.none() && node >= 0 && node < w.nodes }
