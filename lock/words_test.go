package lock_test

import (
	"maps"
	"math/rand"
	"slices"
	"testing"

	"millpond/api"
	"millpond/lock"
)

// master is a page's, kept by the chapter's words alone: sets of nodes, and what is waited for.
type master struct {
	exclusive, owner int
	shared           map[int]int64 // with their numbers
	by               int64         // the number of who holds it exclusively
	past             map[int]bool
	line             []api.Wish
	hand             []api.Wish // none, or one
	op               int64
	supplier         int
	gones            map[int]bool
	got, wrote       bool // waited for
}

func byWords() *master {
	return &master{exclusive: -1, owner: -1, shared: map[int]int64{}, past: map[int]bool{}, gones: map[int]bool{}}
}

func (m *master) copy() *master {
	c := *m
	c.shared, c.past, c.gones = maps.Clone(m.shared), maps.Clone(m.past), maps.Clone(m.gones)
	c.line, c.hand = slices.Clone(m.line), slices.Clone(m.hand)
	return &c
}

func (m *master) sharing(node int) bool {
	_, is := m.shared[node]
	return is
}

func (m *master) holding(node int) bool { return m.exclusive == node || m.sharing(node) }

func (m *master) book() api.Book {
	b := api.Book{Exclusive: m.exclusive, Owner: m.owner, Line: slices.Clone(m.line), Op: m.op}
	b.Shared, b.Past = slices.Sorted(maps.Keys(m.shared)), slices.Sorted(maps.Keys(m.past))
	for node, op := range m.shared {
		b.Ops[node] = op
	}
	if m.exclusive >= 0 {
		b.Ops[m.exclusive] = m.by
	}
	if len(m.hand) > 0 {
		b.Hand, b.Busy = m.hand[0], true
	}
	return b
}

func (m *master) wish(w api.Wish) []api.Order {
	if w.Node < 0 || w.Node > 7 || slices.Contains(m.line, w) || slices.Contains(m.hand, w) {
		return nil
	}
	m.line = append(m.line, w)
	return m.begin()
}

// begin: the line's first wish is in hand, if nothing is.
func (m *master) begin() []api.Order {
	if len(m.hand) > 0 || len(m.line) == 0 {
		return nil
	}
	w := m.line[0]
	m.line, m.hand = slices.Clone(m.line[1:]), []api.Wish{w}
	m.op++
	if w.Kind == api.WishShared && m.holding(w.Node) || w.Kind == api.WishExclusive && m.exclusive == w.Node {
		return m.finish()
	}
	if w.Kind != api.WishClean {
		return m.find()
	}
	m.past[w.Node] = true
	if m.owner >= 0 {
		m.wrote = true
		return []api.Order{{Kind: api.OrderFlush, To: m.owner, Op: m.op}}
	}
	delete(m.past, w.Node)
	return append([]api.Order{{Kind: api.OrderDiscard, To: w.Node, PSN: 1<<31 - 1}}, m.finish()...)
}

func (m *master) finish() []api.Order {
	m.hand, m.got, m.wrote, m.supplier = nil, false, false, -1
	return m.begin()
}

// find: from the finding of the supplier on.
func (m *master) find() []api.Order {
	w := m.hand[0]
	r := w.Node
	lowest := -1
	for node := range m.shared {
		if lowest < 0 || node < lowest {
			lowest = node
		}
	}
	m.got = false
	switch {
	case m.exclusive >= 0:
		m.supplier = m.exclusive
	case m.sharing(m.owner) && (w.Kind == api.WishShared || m.owner != r):
		m.supplier = m.owner
	case w.Kind == api.WishExclusive && m.sharing(r):
		m.supplier = -1
	default:
		m.supplier = lowest
	}
	if w.Kind == api.WishExclusive {
		var drops []api.Order
		for node := range 8 {
			if node != r && node != m.supplier && m.sharing(node) {
				m.gones[node] = true
				drops = append(drops, api.Order{Kind: api.OrderDrop, To: node, Op: m.op})
			}
		}
		if len(drops) > 0 {
			return drops
		}
	}
	m.got = true
	mode, kind := api.Shared, api.OrderShare
	if w.Kind == api.WishExclusive {
		mode, kind = api.Exclusive, api.OrderYield
	}
	if m.supplier < 0 {
		return []api.Order{{Kind: api.OrderGrant, To: r, Op: m.op, Mode: mode}}
	}
	return []api.Order{{Kind: kind, To: m.supplier, Op: m.op, Node: r}}
}

func (m *master) gone(node int, op int64) []api.Order {
	if !m.gones[node] || op != m.op {
		return nil
	}
	delete(m.shared, node)
	return m.isGone(node)
}

func (m *master) isGone(node int) []api.Order {
	delete(m.gones, node)
	if len(m.gones) > 0 {
		return nil
	}
	return m.find()
}

func (m *master) gets(node int, op int64) []api.Order {
	if !m.got || m.hand[0].Node != node || op != m.op {
		return nil
	}
	if m.hand[0].Kind == api.WishShared {
		if m.supplier >= 0 && m.holding(m.supplier) {
			if m.exclusive == m.supplier {
				m.exclusive = -1
			}
			m.shared[m.supplier] = op
		}
		m.shared[node] = op
		return m.finish()
	}
	if m.supplier >= 0 && m.supplier == m.owner {
		m.past[m.supplier] = true
	}
	m.shared = map[int]int64{}
	m.exclusive, m.by, m.owner = node, op, node
	return m.finish()
}

func (m *master) release(node int, op int64) []api.Order {
	if node < 0 || node > 7 {
		return nil
	}
	sends := m.got && m.supplier == node
	waited := m.wrote && m.owner == node
	if delete(m.shared, node); m.exclusive == node {
		m.exclusive = -1
	}
	if m.owner == node {
		m.owner = -1
	}
	if m.gones[node] {
		return m.isGone(node)
	}
	if sends && op < m.op {
		m.op++
		return m.find()
	}
	if waited {
		r := m.hand[0].Node
		delete(m.past, r)
		return append([]api.Order{{Kind: api.OrderDiscard, To: r, PSN: 1<<31 - 1}}, m.finish()...)
	}
	return nil
}

func (m *master) writes(node int, op, psn int64) []api.Order {
	if node < 0 || node > 7 || psn < 0 || psn > 1<<31-1 {
		return nil
	}
	var told []api.Order
	for past := range 8 {
		if m.past[past] {
			told = append(told, api.Order{Kind: api.OrderDiscard, To: past, PSN: psn})
		}
	}
	if node != m.owner || op != m.book().Ops[node] {
		return told
	}
	m.past = map[int]bool{}
	if m.exclusive != node {
		m.owner = -1
	}
	if m.wrote {
		told = append(told, m.finish()...)
	}
	return told
}

// both are a lock and the words' master that are asked alike.
type both struct {
	l *lock.Lock
	m *master
}

// call is what both are asked: a kind, and numbers for all that a kind may name.
type call struct {
	kind, node int
	op, psn    int64
}

// some call: mostly of nodes and numbers that mean something to the page as it stands.
func (b both) call(r *rand.Rand, many int) call {
	c := call{kind: r.Intn(7), node: r.Intn(many), psn: int64(r.Intn(9))}
	now := b.l.Book()
	switch r.Intn(8) {
	case 0:
		c.op = int64(r.Intn(int(now.Op)+2)) - 1
	case 1, 2:
		c.op = now.Ops[c.node]
	default:
		if c.op = now.Op; c.kind == 4 && now.Busy && r.Intn(2) == 0 {
			c.node = now.Hand.Node
		} else if c.kind >= 5 {
			c.op = now.Ops[c.node]
		}
	}
	if c.kind == 5 && r.Intn(4) == 0 { // a Release by the node's own word
		c.op = now.Op + int64(r.Intn(5)) - 3
	}
	switch r.Intn(60) {
	case 0:
		c.node = []int{-1, 8, 9, 1 << 33}[r.Intn(4)]
	case 1:
		c.psn = []int64{-1, 1 << 31, 1<<31 - 1}[r.Intn(3)]
	}
	return c
}

// asked is what both answer; it fails if they differ, in that or in their books.
func (b both) asked(t *testing.T, c call) []api.Order {
	t.Helper()
	var got, want []api.Order
	switch c.kind {
	case 0:
		got, want = b.l.Want(c.node, api.Shared), b.m.wish(api.Wish{Node: c.node, Kind: api.WishShared})
	case 1:
		got, want = b.l.Want(c.node, api.Exclusive), b.m.wish(api.Wish{Node: c.node, Kind: api.WishExclusive})
	case 2:
		got, want = b.l.Clean(c.node), b.m.wish(api.Wish{Node: c.node, Kind: api.WishClean})
	case 3:
		got, want = b.l.Gone(c.node, c.op), b.m.gone(c.node, c.op)
	case 4:
		got, want = b.l.Got(c.node, c.op), b.m.gets(c.node, c.op)
	case 5:
		got, want = b.l.Release(c.node, c.op), b.m.release(c.node, c.op)
	default:
		got, want = b.l.Wrote(c.node, c.op, c.psn), b.m.writes(c.node, c.op, c.psn)
	}
	if !slices.Equal(got, want) {
		t.Fatalf("%+v: %+v, not %+v; behind it %+v", c, got, want, b.l.Book())
	}
	says(t, b.l, b.m.book())
	return got
}

// P13.1, P13.2: any calls, held against the words; a copy goes on apart by calls of its own, and what was answered stays as it was.
func TestAnyCalls(t *testing.T) {
	r := rand.New(rand.NewSource(131))
	for range 1500 {
		many := 2 + r.Intn(7)
		all := []both{{lock.New(), byWords()}}
		var told, kept [][]api.Order
		for range 80 {
			b := all[r.Intn(len(all))]
			answer := b.asked(t, b.call(r, many))
			told, kept = append(told, answer), append(kept, slices.Clone(answer))
			if r.Intn(30) == 0 {
				c := both{b.l.Copy(), b.m.copy()}
				if !lock.Same(b.l, c.l) {
					t.Fatalf("%+v and its copy %+v", b.l.Book(), c.l.Book())
				}
				all = append(all, c)
			}
			other := all[r.Intn(len(all))]
			if lock.Same(b.l, other.l) != alike(b.m.book(), other.m.book()) {
				t.Fatalf("Same: %+v, %+v", b.l.Book(), other.l.Book())
			}
		}
		for _, b := range all {
			says(t, b.l, b.m.book())
		}
		for place := range told {
			if !slices.Equal(told[place], kept[place]) {
				t.Fatalf("%+v became %+v", kept[place], told[place])
			}
		}
	}
}

// P13.1: each way of so many calls of two and three nodes, held against the words.
func TestAllCalls(t *testing.T) {
	for _, c := range []struct{ many, deep int }{{2, 6}, {3, 4}} {
		all := []both{{lock.New(), byWords()}}
		for range c.deep {
			var next []both
			for _, b := range all {
				for _, one := range b.calls(c.many) {
					then := both{b.l.Copy(), b.m.copy()}
					then.asked(t, one)
					if !lock.Same(then.l, b.l) {
						next = append(next, then)
					}
				}
			}
			all = next
		}
	}
}

// calls are all that mean something to the page as it stands, of so many nodes.
func (b both) calls(many int) []call {
	var l []call
	now := b.l.Book()
	for node := range many {
		for kind := range 3 {
			l = append(l, call{kind: kind, node: node})
		}
		l = append(l, call{kind: 3, node: node, op: now.Op}, call{kind: 4, node: node, op: now.Op})
		for _, op := range slices.Compact([]int64{now.Ops[node], now.Op}) {
			l = append(l, call{kind: 6, node: node, op: op, psn: 1})
		}
		for _, op := range []int64{now.Op - 1, now.Op} { // the chapter asks no more of it than whether it is below
			l = append(l, call{kind: 5, node: node, op: op})
		}
	}
	return l
}
