package lease_test

import (
	"math/rand"
	"slices"
	"testing"

	"millpond/api"
	"millpond/lease"
)

// plain is a watch in the chapter's words: of each node all that it said, from its first look on or since it was forgotten.
type plain struct {
	nodes, patience int
	said            map[int][]api.Lease
}

func newPlain(nodes, patience int) *plain {
	return &plain{nodes: nodes, patience: patience, said: map[int][]api.Lease{}}
}

// age is how many looks in a row, ahead of the last one, it said what it said at the last one.
func (p *plain) age(node int) int {
	all, age := p.said[node], 0
	for i := len(all) - 2; i >= 0 && all[i] == all[len(all)-1]; i-- {
		age++
	}
	return age
}

func (p *plain) look(node int, l api.Lease) (bool, api.Errno) {
	if node < 0 || node >= p.nodes || !mayByWords(l) {
		return false, api.ErrArg
	}
	p.said[node] = append(p.said[node], l)
	return p.age(node) >= p.patience, api.OK
}

func (p *plain) forget(node int) api.Errno {
	if node < 0 || node >= p.nodes {
		return api.ErrArg
	}
	delete(p.said, node)
	return api.OK
}

// last is what the node said at the last look, if there was one.
func (p *plain) last(node int) (api.Lease, bool) {
	all := p.said[node]
	if len(all) == 0 {
		return api.Lease{}, false
	}
	return all[len(all)-1], true
}

// same is what two are held against each other by, in the words.
func (p *plain) same(q *plain) bool {
	if p.nodes != q.nodes || p.patience != q.patience {
		return false
	}
	for node := range p.nodes {
		l, one := p.last(node)
		m, other := q.last(node)
		if l != m || one != other || p.age(node) != q.age(node) {
			return false
		}
	}
	return true
}

// stands fails unless a watch tells what the plain one does.
func (p *plain) stands(t *testing.T, w *lease.Watch) {
	t.Helper()
	var suspected []int
	for node := -1; node <= api.MaxNodes; node++ {
		l, looked := p.last(node)
		at(t, w, node, l, looked, p.age(node))
		if looked && p.age(node) >= p.patience {
			suspected = append(suspected, node)
		}
	}
	suspects(t, w, suspected...)
}

// step is one call, by chance, held against the words.
func (p *plain) step(t *testing.T, w *lease.Watch, r *rand.Rand) {
	t.Helper()
	node := r.Intn(p.nodes)
	if r.Intn(12) == 0 {
		node = r.Intn(api.MaxNodes+2) - 1
	}
	switch r.Intn(20) {
	case 0:
		if e, want := w.Forget(node), p.forget(node); e != want {
			t.Fatalf("Forget(%d): %v; not %v", node, e, want)
		}
	case 1:
		if e := w.Clear(); e != api.OK {
			t.Fatalf("Clear: %v", e)
		}
		clear(p.said)
	default:
		l := p.any(node, r)
		is, e := w.Look(node, l)
		if want, f := p.look(node, l); is != want || e != f {
			t.Fatalf("Look(%d, %+v): %v, %v; not %v, %v", node, l, is, e, want, f)
		}
	}
	p.stands(t, w)
}

// any is mostly what the node said last; else another lease, now and then one that may not be.
func (p *plain) any(node int, r *rand.Rand) api.Lease {
	l, _ := p.last(node)
	switch r.Intn(20) {
	case 0:
		return api.Lease{}
	case 1:
		l.Beat++
	case 2:
		l.Ready = r.Int63n(3)
	case 3:
		l.Epoch = r.Int63n(3)
	case 4:
		return few[r.Intn(len(few))]
	case 5:
		all := wrong()
		return all[r.Intn(len(all))]
	}
	return l
}

// P10.2, P10.3, P10.5: any rows of calls, held against the chapter's words.
func TestAnyCalls(t *testing.T) {
	for seed := range int64(300) {
		r := rand.New(rand.NewSource(seed))
		nodes, patience := 1+r.Intn(api.MaxNodes), 1+r.Intn(5)
		w, p := made(t, nodes, patience), newPlain(nodes, patience)
		p.stands(t, w)
		for range 200 {
			p.step(t, w, r)
		}
		if t.Failed() {
			t.Fatalf("seed %d: %d nodes, patience %d", seed, nodes, patience)
		}
	}
}

// P10.4: of any two of few rows of calls Same says what the chapter's words say.
func TestSameOfAnyCalls(t *testing.T) {
	type both struct {
		w *lease.Watch
		p *plain
	}
	var all []both
	for seed := range int64(400) {
		r := rand.New(rand.NewSource(seed))
		nodes, patience := 1+r.Intn(2), 1+r.Intn(2)
		x := both{made(t, nodes, patience), newPlain(nodes, patience)}
		for range r.Intn(5) {
			node, l := r.Intn(nodes), []api.Lease{a, b, {}}[r.Intn(3)]
			if r.Intn(5) == 0 {
				x.w.Forget(node)
				x.p.forget(node)
			} else {
				x.w.Look(node, l)
				x.p.look(node, l)
			}
		}
		all = append(all, x)
	}
	same := 0
	for _, x := range all {
		for _, y := range all {
			if lease.Same(x.w, y.w) != x.p.same(y.p) {
				t.Fatalf("Same: %v of %+v and %+v", !x.p.same(y.p), x.p, y.p)
			}
			if x.w != y.w && x.p.same(y.p) {
				same++
			}
		}
	}
	if same == 0 || same > len(all)*len(all)/2 {
		t.Errorf("%d of %d are the same: that tells little", same, len(all)*len(all))
	}
}

// P10.4: a copy made at any time goes on apart, and both as the words say.
func TestCopiesOfAnyCalls(t *testing.T) {
	for seed := range int64(100) {
		r := rand.New(rand.NewSource(1000 + seed))
		nodes, patience := 1+r.Intn(api.MaxNodes), 1+r.Intn(4)
		w, p := made(t, nodes, patience), newPlain(nodes, patience)
		for range r.Intn(60) {
			p.step(t, w, r)
		}
		x, q := w.Copy(), newPlain(nodes, patience)
		for node, said := range p.said {
			q.said[node] = slices.Clone(said)
		}
		for range 60 {
			if r.Intn(2) == 0 {
				p.step(t, w, r)
			} else {
				q.step(t, x, r)
			}
			p.stands(t, w)
			q.stands(t, x)
			if lease.Same(w, x) != p.same(q) {
				t.Fatalf("Same: %v of %+v and %+v", !p.same(q), p, q)
			}
		}
		if t.Failed() {
			t.Fatalf("seed %d", seed)
		}
	}
}
