package lock

import "millpond/api"

// beginnings tells how a wish begins, by its kind.
func beginnings() map[api.WishKind]func(*Lock) []api.Order {
	return map[api.WishKind]func(*Lock) []api.Order{
		api.WishShared:    (*Lock).beginShared,
		api.WishExclusive: (*Lock).beginExclusive,
		api.WishClean:     (*Lock).beginClean,
	}
}

// next begins the line's wishes, one behind the other, till one has to wait.
func (l *Lock) next() []api.Order {
	begin := beginnings()
	var orders []api.Order
wishes:
	for len(l.line) > 0 {
		l.hand, l.line = l.line[0], l.line[1:]
		l.op++
		orders = append(orders, begin[l.hand.Kind](l)...)
		if l.busy() {
			break wishes
		}
	}
	return orders
}

// busy tells whether something is in hand.
func (l *Lock) busy() bool {
	return l.hand != api.Wish{}
}

// sends tells whether the page is on its way to who wished for it: its Got is waited for.
func (l *Lock) sends() bool {
	return l.busy() && l.hand.Kind != api.WishClean && l.waits == nodes{}
}

// flushes tells whether the owner's Wrote is waited for.
func (l *Lock) flushes() bool {
	return l.hand.Kind == api.WishClean
}

// over is what is in hand no more.
func (l *Lock) over() {
	l.hand = api.Wish{}
}

// done is what is in hand; the next one is begun.
func (l *Lock) done() []api.Order {
	l.over()
	return l.next()
}

// beginShared: who holds the page, in whatever mode, may read it.
func (l *Lock) beginShared() []api.Order {
	if l.holds[l.hand.Node] {
		l.over()
		return nil
	}
	return l.handOn()
}

// beginExclusive: who holds the page exclusively has what it wishes for.
func (l *Lock) beginExclusive() []api.Order {
	if l.exclusive == l.hand.Node {
		l.over()
		return nil
	}
	return l.handOver()
}

// beginClean: without an owner all versions are on the device.
func (l *Lock) beginClean() []api.Order {
	l.past[l.hand.Node] = true
	if l.owner == nobody {
		return l.needless()
	}
	return []api.Order{{Kind: api.OrderFlush, To: l.owner, Op: l.op}}
}

// needless tells the node of a Clean that it needs none of its past images: that is over.
func (l *Lock) needless() []api.Order {
	node := l.hand.Node
	l.past[node] = false
	l.over()
	return []api.Order{{Kind: api.OrderDiscard, To: node, PSN: api.MaxStamp}}
}

// anew is a wish whose supplier gave the page up ahead of sending it. The new number tells its orders from those that were told in vain.
func (l *Lock) anew() []api.Order {
	l.op++
	if l.hand.Kind == api.WishShared {
		return l.handOn()
	}
	return l.handOver()
}

// supplierFor is who can send the page to the node: the owner, as the device may have an elder version than it has; else anybody, unless the node has the page itself.
func (l *Lock) supplierFor(node int) int {
	if l.owner != nobody && l.owner != node {
		return l.owner
	}
	if l.holds[node] {
		return nobody
	}
	return l.holds.lowest()
}

// handOn lets the supplier share the page with who wished for it.
func (l *Lock) handOn() []api.Order {
	l.supplier = l.supplierFor(l.hand.Node)
	return l.send(api.OrderShare, api.Shared)
}

// handOver lets the supplier yield the page to who wished for it, when nobody else holds it any more.
func (l *Lock) handOver() []api.Order {
	l.supplier = l.supplierFor(l.hand.Node)
	l.waits = l.others()
	if l.waits != (nodes{}) {
		return l.drops()
	}
	return l.send(api.OrderYield, api.Exclusive)
}

// others are those that hold the page beside who wished for it and the supplier.
func (l *Lock) others() nodes {
	others := l.holds
	others[l.hand.Node] = false
	if l.supplier != nobody {
		others[l.supplier] = false
	}
	return others
}

// drops tells all whose Gone is waited for to give the page up.
func (l *Lock) drops() []api.Order {
	var orders []api.Order
	for _, node := range l.waits.list() {
		orders = append(orders, api.Order{Kind: api.OrderDrop, To: node, Op: l.op})
	}
	return orders
}

// send tells the supplier to send the page; without one, who wished for it takes it from the device, or keeps what it has.
func (l *Lock) send(kind api.OrderKind, mode api.Mode) []api.Order {
	if l.supplier == nobody {
		return []api.Order{{Kind: api.OrderGrant, To: l.hand.Node, Op: l.op, Mode: mode}}
	}
	return []api.Order{{Kind: kind, To: l.supplier, Op: l.op, Node: l.hand.Node}}
}
