package lock_test

import (
	"math/rand"
	"slices"
	"testing"

	"millpond/api"
	"millpond/lock"
)

// apart fails unless who holds the page exclusively is alone, and the owner; and unless the owner holds it.
func apart(t *testing.T, b api.Book) {
	t.Helper()
	if b.Exclusive >= 0 && (len(b.Shared) > 0 || b.Owner != b.Exclusive) {
		t.Fatalf("not alone, or not the owner: %+v", b)
	}
	for node, op := range b.Ops {
		if (op != 0) != (node == b.Exclusive || slices.Contains(b.Shared, node)) || op > b.Op {
			t.Fatalf("the number of %d: %+v", node, b)
		}
	}
	if b.Busy != (b.Hand != api.Wish{}) || !b.Busy && len(b.Line) > 0 {
		t.Fatalf("in hand, and in the line: %+v", b)
	}
}

// handsOver fails unless, beside an exclusive Grant or a Yield, only its node and the supplier hold the page.
func handsOver(t *testing.T, told []api.Order, b api.Book) {
	t.Helper()
	for _, o := range told {
		may := []int{o.Node, o.To}
		if o.Kind == api.OrderGrant && o.Mode == api.Exclusive {
			may = []int{o.To}
		} else if o.Kind != api.OrderYield {
			continue
		}
		for _, node := range append(slices.Clone(b.Shared), b.Exclusive) {
			if node >= 0 && !slices.Contains(may, node) {
				t.Fatalf("%+v, where %d holds it: %+v", o, node, b)
			}
		}
	}
}

// rises fails unless numbers of orders never fall, from the last one on; it answers the last one of them.
func rises(t *testing.T, told []api.Order, last int64) int64 {
	t.Helper()
	for _, o := range told {
		if o.Kind == api.OrderDiscard {
			if o.Op != 0 {
				t.Fatalf("%+v", o)
			}
			continue
		}
		if o.Op < last || o.Op == 0 {
			t.Fatalf("%+v behind %d", o, last)
		}
		last = o.Op
	}
	return last
}

// does is what comes of an order that is done at once.
func does(l *lock.Lock, o api.Order) []api.Order {
	switch o.Kind {
	case api.OrderGrant:
		return l.Got(o.To, o.Op)
	case api.OrderShare, api.OrderYield:
		return l.Got(o.Node, o.Op)
	case api.OrderDrop:
		return l.Gone(o.To, o.Op)
	case api.OrderFlush:
		return l.Wrote(o.To, l.Book().Ops[o.To], 5)
	}
	return nil
}

// P13.3, P0.1: any calls at all: who holds the page exclusively is alone; numbers never fall; and whatever waits, goes on when those that were told something do it.
func TestWhatFollowsOfAnyCalls(t *testing.T) {
	r := rand.New(rand.NewSource(133))
	for range 1500 {
		b := both{lock.New(), byWords()}
		many := 2 + r.Intn(7)
		last := int64(0)
		var told []api.Order
		for range 60 {
			was := b.l.Book()
			answer := b.asked(t, b.call(r, many))
			now := b.l.Book()
			apart(t, now)
			handsOver(t, answer, now)
			if last = rises(t, answer, last); now.Op < was.Op {
				t.Fatalf("the greatest number %d behind %d", now.Op, was.Op)
			}
			told = append(told, answer...)
			if now.Busy && last != now.Op {
				t.Fatalf("nobody was told anything for what is in hand: %+v", now)
			}
		}
		goesOn(t, b.l, told)
	}
}

// goesOn fails unless all wishes are done, when all that was told is.
func goesOn(t *testing.T, l *lock.Lock, told []api.Order) {
	t.Helper()
	for many := 0; !l.Idle(); many++ {
		if many == len(told) {
			t.Fatalf("it hangs: %+v", l.Book())
		}
		told = append(told, does(l, told[many])...)
		apart(t, l.Book())
	}
}

// P13.4: all do at once what they are told: the line is empty behind each call, nothing is in hand, and who asked has what it asked for.
func TestAllDoAtOnce(t *testing.T) {
	r := rand.New(rand.NewSource(134))
	for range 500 {
		l, many := lock.New(), 2+r.Intn(7)
		last := int64(0)
		for range 60 {
			node := r.Intn(many)
			var told []api.Order
			w := api.Wish{Node: node, Kind: api.WishKind(r.Intn(5))}
			switch w.Kind {
			case 0:
				told = l.Release(node, l.Book().Ops[node])
			case 4:
				told = l.Wrote(node, l.Book().Ops[node], 7)
			default:
				told = wishes(l, w)
			}
			for len(told) > 0 {
				last = rises(t, told[:1], last)
				told = append(told[1:], does(l, told[0])...)
			}
			b := l.Book()
			if apart(t, b); b.Busy || len(b.Line) > 0 || !l.Idle() {
				t.Fatalf("behind %+v: %+v", w, b)
			}
			how, ok := l.Holds(node)
			if w.Kind == 0 && ok || w.Kind == api.WishShared && !ok || w.Kind == api.WishExclusive && how != api.Exclusive || w.Kind == api.WishClean && slices.Contains(b.Past, node) {
				t.Fatalf("behind %+v: %+v", w, b)
			}
		}
	}
}

// said is a message that is on its way: to the master a kind as a call has it; an image from a node to another one.
type said struct {
	kind    int
	op      int64
	mode    api.Mode
	version int64
	dirty   bool
}

// peer is a node that has the page, or wants it.
type peer struct {
	mode           api.Mode
	op, version    int64
	dirty          bool
	marks          []int64
	asked, cleaned bool
}

// pond is a page's master, nodes, and what is on its way between them, in order between each two.
type pond struct {
	l              *lock.Lock
	peers          [5]peer
	out            [5][]said
	in             [5][]api.Order
	images         [5][5][]said
	device, newest int64
}

// coherent fails unless each that holds the page has its newest version, and who holds it exclusively is alone.
func (p *pond) coherent(t *testing.T) {
	t.Helper()
	holds, exclusive := 0, 0
	for node, one := range p.peers {
		if one.mode == 0 {
			continue
		}
		if holds++; one.mode == api.Exclusive {
			exclusive++
		}
		if one.version != p.newest {
			t.Fatalf("%d has the version %d of %d: %+v", node, one.version, p.newest, p.l.Book())
		}
	}
	if exclusive > 0 && holds > 1 {
		t.Fatalf("not alone: %+v", p.peers)
	}
	apart(t, p.l.Book())
}

// back writes a page back, if it is dirty.
func (p *pond) back(one *peer) {
	if one.dirty {
		p.device, one.dirty = one.version, false
	}
}

// acts lets a node ask, write, write back or give up, as it likes.
func (p *pond) acts(r *rand.Rand, node int) {
	one := &p.peers[node]
	switch what := r.Intn(7); {
	case what < 2 && !one.asked && int(one.mode) < what+1:
		one.asked = true
		p.out[node] = append(p.out[node], said{kind: what})
	case what == 2 && len(one.marks) > 0 && !one.cleaned:
		one.cleaned = true
		p.out[node] = append(p.out[node], said{kind: 2})
	case what == 3 && one.mode == api.Exclusive:
		one.version++
		one.dirty = true
		p.newest++
	case what == 4 && one.dirty:
		p.back(one)
		p.out[node] = append(p.out[node], said{kind: 6, op: one.op, version: one.version})
	case what == 5 && one.mode != 0 && !one.asked:
		if one.dirty {
			p.back(one)
			p.out[node] = append(p.out[node], said{kind: 6, op: one.op, version: one.version})
		}
		one.mode = 0
		p.out[node] = append(p.out[node], said{kind: 5, op: one.op})
	}
}

// comes is a message from a node that comes to the master.
func (p *pond) comes(node int) {
	if len(p.out[node]) == 0 {
		return
	}
	m := p.out[node][0]
	p.out[node] = p.out[node][1:]
	var told []api.Order
	switch m.kind {
	case 0, 1, 2:
		told = wishes(p.l, api.Wish{Node: node, Kind: api.WishKind(m.kind + 1)})
	case 3:
		told = p.l.Gone(node, m.op)
	case 4:
		told = p.l.Got(node, m.op)
	case 5:
		told = p.l.Release(node, m.op)
	default:
		told = p.l.Wrote(node, m.op, m.version)
	}
	for _, o := range told {
		p.in[o.To] = append(p.in[o.To], o)
	}
}

// takes is a page that comes to a node: from another one, or from the device.
func (p *pond) takes(node int, m said) {
	one := &p.peers[node]
	if one.mode != 0 && one.op >= m.op {
		return
	}
	one.dirty = m.dirty || one.mode != 0 && one.dirty
	one.mode, one.op, one.version, one.asked = m.mode, m.op, m.version, false
	p.out[node] = append(p.out[node], said{kind: 4, op: m.op})
}

// obeys is an order that comes to a node.
func (p *pond) obeys(t *testing.T, node int) {
	if len(p.in[node]) == 0 {
		return
	}
	o := p.in[node][0]
	p.in[node] = p.in[node][1:]
	one := &p.peers[node]
	held := one.mode != 0 && one.op < o.Op
	switch o.Kind {
	case api.OrderGrant:
		m := said{op: o.Op, mode: o.Mode, version: p.device}
		if held {
			m.version = one.version
		}
		p.takes(node, m)
	case api.OrderShare:
		if held {
			one.mode, one.op = api.Shared, o.Op
			p.images[node][o.Node] = append(p.images[node][o.Node], said{op: o.Op, mode: api.Shared, version: one.version})
		}
	case api.OrderYield:
		if held {
			if one.mode = 0; one.dirty {
				one.marks = append(one.marks, one.version)
			}
			p.images[node][o.Node] = append(p.images[node][o.Node], said{op: o.Op, mode: api.Exclusive, version: one.version, dirty: one.dirty})
		}
	case api.OrderDrop:
		if held {
			if one.mode = 0; one.dirty {
				t.Fatalf("%d drops what is dirty: %+v", node, p.l.Book())
			}
		}
		p.out[node] = append(p.out[node], said{kind: 3, op: o.Op})
	case api.OrderFlush:
		if one.mode != 0 {
			p.back(one)
			p.out[node] = append(p.out[node], said{kind: 6, op: one.op, version: one.version})
		}
	case api.OrderDiscard:
		one.cleaned = false
		one.marks = slices.DeleteFunc(one.marks, func(version int64) bool {
			if version <= o.PSN && version > p.device {
				t.Fatalf("%d discards the version %d, the device has %d", node, version, p.device)
			}
			return version <= o.PSN
		})
	}
}

// arrives is a page that comes from a node to another one.
func (p *pond) arrives(from, to int) {
	if l := p.images[from][to]; len(l) > 0 {
		p.images[from][to] = l[1:]
		p.takes(to, l[0])
	}
}

// drains lets all come that is on its way.
func (p *pond) drains(t *testing.T) {
	for range 200 {
		for node := range p.peers {
			p.comes(node)
			p.obeys(t, node)
			for to := range p.peers {
				p.arrives(node, to)
			}
			p.coherent(t)
		}
	}
}

// P0.1, P13.3: nodes that ask, write, give up and do what they are told, each message as late as chance will: who writes is alone, all that hold the page have its newest version, nothing is discarded too early, and at last all have what they asked for.
func TestNodes(t *testing.T) {
	r := rand.New(rand.NewSource(135))
	for range 400 {
		p := &pond{l: lock.New()}
		for range 150 {
			node := r.Intn(len(p.peers))
			switch r.Intn(4) {
			case 0:
				p.acts(r, node)
			case 1:
				p.comes(node)
			case 2:
				p.obeys(t, node)
			default:
				for to := range p.peers {
					p.arrives(node, to)
				}
			}
			p.coherent(t)
		}
		p.drains(t)
		for node := range p.peers {
			if one := &p.peers[node]; len(one.marks) > 0 && !one.cleaned {
				p.out[node] = append(p.out[node], said{kind: 2})
			}
		}
		p.drains(t)
		for node, one := range p.peers {
			if one.asked || len(one.marks) > 0 {
				t.Fatalf("%d waits yet: %+v; %+v", node, one, p.l.Book())
			}
			if how, _ := p.l.Holds(node); how != one.mode {
				t.Fatalf("%d holds it by the book in the mode %d: %+v", node, how, one)
			}
		}
		if b := p.l.Book(); b.Busy || len(b.Line) > 0 {
			t.Fatalf("not all is done: %+v", b)
		}
	}
}
