package holder_test

import (
	"math/rand"
	"testing"

	"millpond/api"
	"millpond/device"
	"millpond/holder"
	"millpond/rebuild"
)

// book is what the page's master knows, by a plain one that lets all be done at once.
type book struct {
	op        int64
	exclusive int // who holds it so; -1 of none
	owner     int // who is to write it back; -1 of none
	shared    map[int]bool
	past      map[int]bool
}

// deed is who wrote a page's version.
type deed struct {
	node int
	v    api.Version
}

// nodes are some that share a device, by the rules of the whole, with what is the youngest write of each page.
type nodes struct {
	t       *testing.T
	r       *rand.Rand
	j       api.Job
	d       *device.Device
	epochs  []int64
	holders []*holder.Holder
	books   []book
	young   []deed
	down    int // who was cut within a call; -1 of none
}

// crash is what leaves an act of several nodes where one of them goes down.
type crash struct{}

// at is a node's holder, for one call: by chance it is cut in the midst of that.
func (n *nodes) at(node int, call func(h *holder.Holder) api.Errno) {
	n.t.Helper()
	if n.r.Intn(60) > 0 {
		fine(n.t, "a call", call(n.holders[node]))
		return
	}
	was := durable(n.t, n.d, n.j)
	n.d.Cut(n.r.Intn(8))
	fine(n.t, "a call that is cut", call(n.holders[node]))
	n.d.Whole()
	n.down = node
	for page, v := range durable(n.t, n.d, n.j) {
		young := n.young[page]
		mine := young.node == node && v.PSN > was[page].PSN && v.PSN <= young.v.PSN
		if v != was[page] && !mine {
			n.t.Fatalf("a crash of the node %d: the page %d was %+v, and is %+v", node, page, was[page], v)
		}
	}
	ruled(n.t, n.d, n.j)
	panic(crash{})
}

// room lets a node have a place free for a page; what goes for that is given up.
func (n *nodes) room(node, page int) {
	n.t.Helper()
	var l []api.Left
	n.at(node, func(h *holder.Holder) (e api.Errno) {
		l, e = h.Free(page)
		return e
	})
	n.wrote(node, l)
	for _, left := range l {
		b := &n.books[left.Page]
		delete(b.shared, node)
		if b.exclusive == node {
			b.exclusive = -1
		}
		if left.PSN == 0 && b.owner == node {
			n.t.Fatalf("the owner of the page %d gave it up, and wrote nothing", left.Page)
		}
	}
}

// wrote lets the past images go of what a node wrote back; it owns that no more.
func (n *nodes) wrote(node int, l []api.Left) {
	n.t.Helper()
	for _, left := range l {
		b := &n.books[left.Page]
		if left.PSN == 0 {
			continue
		}
		if b.owner == node {
			b.owner = -1
		}
		stands(n.t, n.d, n.j, left.Page, n.young[left.Page].v)
		n.discard(left.Page, left.PSN)
	}
}

func (n *nodes) discard(page int, psn int64) {
	n.t.Helper()
	for node := range n.j.Nodes {
		if n.books[page].past[node] {
			n.at(node, func(h *holder.Holder) api.Errno {
				_, e := h.Discard(page, psn)
				return e
			})
			delete(n.books[page].past, node)
		}
	}
}

// read lets a node read a page: from whoever owns it, or holds it exclusively, else from the device.
func (n *nodes) read(node, page int) {
	n.t.Helper()
	b := &n.books[page]
	if _, is := n.holders[node].Look(page); !is {
		n.room(node, page)
		b.op++
		from := max(b.exclusive, b.owner)
		if from < 0 {
			n.at(node, func(h *holder.Holder) api.Errno { return h.Grant(page, b.op, api.Shared) })
		} else {
			var f api.Frame
			n.at(from, func(h *holder.Holder) (e api.Errno) {
				f, e = h.Share(page, b.op)
				return e
			})
			n.at(node, func(h *holder.Holder) api.Errno { return h.Take(page, b.op, api.Shared, f.V, false) })
			b.exclusive = -1
			b.shared[from] = true
		}
		b.shared[node] = true
	}
	reads(n.t, n.holders[node], page, n.young[page].v)
}

// hold lets a node hold a page exclusively.
func (n *nodes) hold(node, page int) {
	n.t.Helper()
	b := &n.books[page]
	if b.exclusive == node {
		return
	}
	n.room(node, page)
	from := max(b.exclusive, b.owner)
	for other := range n.j.Nodes {
		if b.shared[other] && other != node && other != from {
			b.op++
			n.at(other, func(h *holder.Holder) api.Errno {
				if gone, e := h.Drop(page, b.op); !gone {
					n.t.Fatalf("Drop(%d): %v, %v", page, gone, e)
				}
				return api.OK
			})
		}
	}
	b.op++
	if from < 0 || from == node {
		n.at(node, func(h *holder.Holder) api.Errno { return h.Grant(page, b.op, api.Exclusive) })
	} else {
		n.move(from, node, page)
	}
	b.exclusive, b.shared = node, map[int]bool{}
}

// move lets a page go from one node to another one.
func (n *nodes) move(from, node, page int) {
	n.t.Helper()
	b := &n.books[page]
	var f api.Frame
	n.at(from, func(h *holder.Holder) (e api.Errno) {
		f, e = h.Yield(page, b.op)
		return e
	})
	if f.V != n.young[page].v {
		n.t.Fatalf("the page %d goes as %+v, not %+v", page, f.V, n.young[page].v)
	}
	n.at(node, func(h *holder.Holder) api.Errno { return h.Take(page, b.op, api.Exclusive, f.V, f.Dirty) })
	b.past[from] = true
	b.owner = -1
	if f.Dirty {
		b.owner = node
	}
}

// write lets a node write a page; where its log has no room, it makes some.
func (n *nodes) write(node, page int) {
	n.t.Helper()
	n.hold(node, page)
	if n.holders[node].Room() == 0 {
		n.checkpoint(node)
	}
	v := n.young[page].v
	is := version(v.PSN+1, n.r.Int())
	got, e := n.holders[node].Write(page, is.Body)
	if got != is || e != api.OK {
		n.t.Fatalf("Write(%d): %+v, %v", page, got, e)
	}
	n.young[page] = deed{node, is}
	n.books[page].owner = node
}

// checkpoint lets a node write all its dirty pages back, and its past images go; then its log has nothing.
func (n *nodes) checkpoint(node int) {
	n.t.Helper()
	var l []api.Left
	n.at(node, func(h *holder.Holder) (e api.Errno) {
		l, e = h.Clean()
		return e
	})
	n.wrote(node, l)
	for m := range n.holders[node].Marks() {
		n.flush(m.Page)
	}
	n.at(node, func(h *holder.Holder) api.Errno { return h.Cut() })
	if h := n.holders[node]; h.Start() != h.Next() || h.Flushed() != h.Next()-1 {
		n.t.Fatalf("the log of the node %d has records from %d up to %d", node, h.Start(), h.Next())
	}
}

// flush lets a page be written back by who owns it, and its past images go.
func (n *nodes) flush(page int) {
	n.t.Helper()
	b := &n.books[page]
	if owner := b.owner; owner >= 0 {
		var psn int64
		n.at(owner, func(h *holder.Holder) (e api.Errno) {
			psn, e = h.Back(page)
			return e
		})
		n.wrote(owner, []api.Left{{Page: page, PSN: psn}})
	}
	n.discard(page, api.MaxStamp)
}

// sync makes all that a node has written durable.
func (n *nodes) sync(node int) {
	n.t.Helper()
	n.at(node, func(h *holder.Holder) api.Errno { return h.Sync() })
	for page, v := range durable(n.t, n.d, n.j) {
		if n.young[page].node == node && v != n.young[page].v {
			n.t.Fatalf("the page %d is not durable: %+v", page, v)
		}
	}
}

// act is one of them; a crash in it ends it.
func (n *nodes) act() {
	n.t.Helper()
	defer func() {
		if given := recover(); given != nil {
			_ = given.(crash)
		}
	}()
	node, page := n.r.Intn(n.j.Nodes), n.r.Intn(n.j.Pages)
	switch k := n.r.Intn(20); {
	case k < 8:
		n.write(node, page)
	case k < 14:
		n.read(node, page)
	case k < 16:
		n.sync(node)
	case k < 17:
		n.checkpoint(node)
	case k < 18:
		n.flush(page)
	case k < 19:
		n.at(node, func(h *holder.Holder) api.Errno { return h.Cut() })
	default:
		n.room(node, page)
	}
}

// begin lets all begin with empty books, behind logs that have nothing.
func (n *nodes) begin() {
	n.t.Helper()
	n.books = nil
	for range n.j.Pages {
		n.books = append(n.books, book{exclusive: -1, owner: -1, shared: map[int]bool{}, past: map[int]bool{}})
	}
	for node := range n.j.Nodes {
		if n.holders[node] == nil {
			n.epochs[node], _ = n.d.Up(node)
			n.holders[node] = opened(n.t, n.d, n.j, node, n.epochs[node])
		}
		fine(n.t, "Cut", n.holders[node].Cut())
	}
	n.down = -1
}

// view is what follows on a crash: the others freeze, who went down is fenced, and all that is missing is rebuilt. What is lost are volatile writes of who went down.
func (n *nodes) view() {
	n.t.Helper()
	lost := n.down
	dead := n.holders[lost]
	n.d.Fence((lost+1)%n.j.Nodes, n.epochs[(lost+1)%n.j.Nodes], lost, n.epochs[lost])
	was := n.d.Copy()
	dead.Freeze() // it may be slow, and not down: it changes nothing any more
	dead.Sync()
	dead.Cut()
	untouched(n.t, "who is fenced", n.d, was)
	n.holders[lost] = nil
	for node, h := range n.holders {
		if h == nil {
			continue
		}
		var dirty []api.Frame
		for f := range h.Frames() {
			if f.Dirty {
				dirty = append(dirty, f)
			}
		}
		fine(n.t, "Freeze", h.Freeze())
		has(n.t, h)
		marked(n.t, h)
		for _, f := range dirty {
			stands(n.t, n.d, n.j, f.Page, f.V)
		}
		for page, v := range durable(n.t, n.d, n.j) {
			if n.young[page].node == node && v != n.young[page].v {
				n.t.Fatalf("the page %d, which the node %d wrote, is %+v behind Freeze, not %+v", page, node, v, n.young[page].v)
			}
		}
	}
	left := durable(n.t, n.d, n.j)
	if _, e := rebuild.Rebuild(n.d, n.j, (lost+1)%n.j.Nodes, n.epochs[(lost+1)%n.j.Nodes]); e != api.OK {
		n.t.Fatal(e)
	}
	for page, v := range left {
		if v != n.young[page].v && n.young[page].node != lost {
			n.t.Fatalf("the page %d lost %+v, which the node %d wrote, not %d", page, n.young[page].v, n.young[page].node, lost)
		}
		stands(n.t, n.d, n.j, page, v)
		n.young[page] = deed{n.young[page].node, v}
	}
	n.begin()
}

// P17.8, P0.3, P0.4, P0.6: nodes that hand pages to and fro, dirty and not, by the rules of the whole, and go down in the midst of any call: each Read has the youngest write that is not lost; what is lost are volatile writes of who went down.
func TestNodes(t *testing.T) {
	r := rand.New(rand.NewSource(8))
	for range 60 {
		j := api.Job{Nodes: 2 + r.Intn(3), Pages: 1 + r.Intn(4), Frames: 1 + r.Intn(3), Log: 2 + r.Intn(5), Patience: 2}
		n := &nodes{t: t, r: r, j: j, d: made(t, j), epochs: make([]int64, j.Nodes), holders: make([]*holder.Holder, j.Nodes), young: make([]deed, j.Pages)}
		n.begin()
		for range 300 {
			n.act()
			if n.down >= 0 {
				n.view()
			}
			ruled(t, n.d, j)
		}
	}
}
