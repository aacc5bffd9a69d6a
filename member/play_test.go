package member_test

import (
	"math/rand"
	"testing"

	"millpond/api"
	"millpond/device"
	"millpond/lease"
	"millpond/member"
	"millpond/view"
)

// plain is a device in the chapter's words: epochs, a view and leases, each of which may be none.
type plain struct {
	j      api.Job
	epochs [api.MaxNodes]int64
	v      api.View
	noView bool
	leases [api.MaxNodes]api.Lease
	none   [api.MaxNodes]bool
}

func (p *plain) isNode(node int) bool { return node >= 0 && node < p.j.Nodes }

// ask is why one who asks by that node and epoch is refused; may: is all else as it may be?
func (p *plain) ask(node int, epoch int64, may bool) api.Errno {
	switch {
	case !may || !p.isNode(node) || epoch < 1 || epoch > p.epochs[node]:
		return api.ErrArg
	case epoch < p.epochs[node]:
		return api.ErrFenced
	}
	return api.OK
}

func (p *plain) askView(node int, epoch int64, may bool) api.Errno {
	if wrong := p.ask(node, epoch, may); wrong != api.OK {
		return wrong
	}
	if p.noView {
		return api.ErrCorrupt
	}
	return api.OK
}

func (p *plain) say(node int, l api.Lease) api.Errno {
	wrong := p.ask(node, l.Epoch, l.Beat >= 0 && l.Beat <= api.MaxNumber && l.Ready >= 0 && l.Ready <= api.MaxNumber)
	if wrong == api.OK {
		p.leases[node], p.none[node] = l, false
	}
	return wrong
}

func (p *plain) join(node int, epoch int64) (api.View, bool, api.Errno) {
	wrong := p.askView(node, epoch, true)
	switch {
	case wrong != api.OK:
		return api.View{}, false, wrong
	case p.v.Members[node].In && p.v.Members[node].Epoch >= epoch:
		return p.v, false, api.OK
	case p.v.Number == api.MaxNumber:
		return api.View{}, false, api.ErrFull
	}
	p.v.Members[node] = api.Member{In: true, Epoch: epoch}
	p.v.Number, p.v.Open, p.v.Founder = p.v.Number+1, false, node
	return p.v, true, api.OK
}

func (p *plain) out(node int, epoch int64, who int) (api.View, bool, api.Errno) {
	wrong := p.askView(node, epoch, p.isNode(who) && node != who)
	switch {
	case wrong != api.OK:
		return api.View{}, false, wrong
	case p.v.Members[node] != api.Member{In: true, Epoch: epoch} || !p.v.Members[who].In:
		return api.View{}, false, api.ErrNone
	case p.v.Number == api.MaxNumber:
		return api.View{}, false, api.ErrFull
	case p.v.Members[who].Epoch == api.MaxEpoch: // layer 2: nobody is fenced above it
		return api.View{}, false, api.ErrArg
	}
	p.epochs[who] = max(p.epochs[who], p.v.Members[who].Epoch+1)
	p.v.Members[who] = api.Member{}
	p.v.Number, p.v.Open, p.v.Founder = p.v.Number+1, false, node
	return p.v, true, api.OK
}

func (p *plain) open(node int, epoch int64) (api.View, bool, api.Errno) {
	wrong := p.askView(node, epoch, true)
	switch {
	case wrong != api.OK:
		return api.View{}, false, wrong
	case p.v.Open:
		return p.v, false, api.OK
	case p.v.Founder != node || p.v.Members[node] != api.Member{In: true, Epoch: epoch}:
		return api.View{}, false, api.ErrNone
	case !p.all(p.v):
		return api.View{}, false, api.ErrState
	}
	p.v.Open = true
	return p.v, true, api.OK
}

func (p *plain) ready(v api.View) []state {
	var l []state
	for node, m := range v.Members {
		if m.In {
			l = append(l, state{node, p.isNode(node) && !p.none[node] && p.leases[node].Epoch == m.Epoch && p.leases[node].Ready >= v.Number})
		}
	}
	return l
}

func (p *plain) all(v api.View) bool {
	all := true
	for _, s := range p.ready(v) {
		all = all && s.ready
	}
	return all && len(p.ready(v)) > 0
}

// stands fails unless the device has what the plain one has, and the calls that look tell it.
func (p *plain) stands(t *testing.T, d *device.Device) {
	t.Helper()
	s, _ := d.Read(0)
	if v, e := view.Get(s); p.noView != (e != api.OK) || !p.noView && v != p.v {
		t.Fatalf("the view is %+v, %v; not %+v, none: %v", v, e, p.v, p.noView)
	}
	if v, e := member.View(d, p.j); p.noView && (e != api.ErrCorrupt || v != api.View{}) || !p.noView && (e != api.OK || v != p.v) {
		t.Fatalf("View: %+v, %v; not %+v, none: %v", v, e, p.v, p.noView)
	}
	for node := range d.Nodes() {
		if n, _ := d.Epoch(node); n != p.epochs[node] {
			t.Fatalf("the epoch of %d is %d, not %d", node, n, p.epochs[node])
		}
		s, _ := d.Read(1 + node)
		want, wrong := p.leases[node], api.OK
		if p.none[node] {
			want, wrong = api.Lease{}, api.ErrCorrupt
		}
		if l, e := lease.Get(s); l != want || e != wrong {
			t.Fatalf("the lease of %d is %+v, %v; not %+v, %v", node, l, e, want, wrong)
		}
		if !p.isNode(node) {
			want, wrong = api.Lease{}, api.ErrArg
		}
		if l, e := member.Lease(d, p.j, node); l != want || e != wrong {
			t.Fatalf("Lease(%d): %+v, %v; not %+v, %v", node, l, e, want, wrong)
		}
	}
	for at, s := range d.All() {
		if at > 8 && s != (api.Sector{}) {
			t.Fatalf("the sector %d was written", at)
		}
	}
	if !p.noView {
		readies(t, d, p.j, p.v, p.ready(p.v)...)
	}
}

// who is a node with an epoch, mostly as the device has it.
func (p *plain) who(r *rand.Rand) (int, int64) {
	node := r.Intn(p.j.Nodes)
	epoch := p.epochs[node]
	switch r.Intn(12) {
	case 0:
		epoch += int64(r.Intn(4)) - 2
	case 1:
		return r.Intn(api.MaxNodes+2) - 1, epoch
	}
	return node, epoch
}

// answered holds a call's answer against the words'.
func answered(t *testing.T, what string, v api.View, did bool, e api.Errno, want api.View, does bool, wrong api.Errno) {
	t.Helper()
	if v != want || did != does || e != wrong {
		t.Fatalf("%s: %+v, %v, %v; not %+v, %v, %v", what, v, did, e, want, does, wrong)
	}
}

// step is one call, by chance, held against the words; strange: also what no node does to a device.
func (p *plain) step(t *testing.T, d *device.Device, r *rand.Rand, strange bool) {
	t.Helper()
	node, epoch := p.who(r)
	switch k := r.Intn(20); {
	case k == 0:
		node := r.Intn(p.j.Nodes)
		if epoch, e := d.Up(node); e == api.OK {
			p.epochs[node] = epoch
		}
	case k == 1:
		for node := range p.j.Nodes { // all that are up are ready, so that views do open
			l := api.Lease{Epoch: p.epochs[node], Ready: p.v.Number}
			if e, want := member.Say(d, p.j, node, l), p.say(node, l); e != want {
				t.Fatalf("Say(%d, %+v): %v, not %v", node, l, e, want)
			}
		}
	case k < 7:
		l := api.Lease{Epoch: epoch, Beat: r.Int63n(3), Ready: max(0, p.v.Number-r.Int63n(2))}
		if r.Intn(20) == 0 {
			l.Beat, l.Ready = r.Int63n(3)-1, r.Int63n(3)-1
		}
		if e, want := member.Say(d, p.j, node, l), p.say(node, l); e != want {
			t.Fatalf("Say(%d, %+v): %v, not %v", node, l, e, want)
		}
	case k < 11:
		v, did, e := member.Join(d, p.j, node, epoch)
		want, does, wrong := p.join(node, epoch)
		answered(t, "Join", v, did, e, want, does, wrong)
	case k < 13:
		who := r.Intn(p.j.Nodes+2) - 1
		v, did, e := member.Out(d, p.j, node, epoch, who)
		want, does, wrong := p.out(node, epoch, who)
		answered(t, "Out", v, did, e, want, does, wrong)
	case k < 19 || !strange:
		if !p.noView && r.Intn(3) > 0 {
			node, epoch = p.v.Founder, p.v.Members[p.v.Founder].Epoch
		}
		v, did, e := member.Open(d, p.j, node, epoch)
		want, does, wrong := p.open(node, epoch)
		answered(t, "Open", v, did, e, want, does, wrong)
	default:
		p.disturb(t, d, r)
	}
	p.stands(t, d)
}

// disturb lays what no node lays: sectors that are none, strange views and leases.
func (p *plain) disturb(t *testing.T, d *device.Device, r *rand.Rand) {
	t.Helper()
	node := r.Intn(api.MaxNodes)
	switch r.Intn(5) {
	case 0:
		lay(t, d, 0, api.Sector{byte(1 + r.Intn(250))})
		p.noView = true
	case 1:
		if node < d.Nodes() {
			lay(t, d, 1+node, api.Sector{byte(1 + r.Intn(250))})
			p.none[node] = true
		}
	case 2:
		if node < d.Nodes() {
			p.leases[node], p.none[node] = api.Lease{Epoch: p.epochs[node], Beat: 1, Ready: p.v.Number}, false
			layLease(t, d, node, p.leases[node])
		}
	default:
		p.v, p.noView = api.View{Number: []int64{1, 40, api.MaxNumber - 1, api.MaxNumber}[r.Intn(4)], Open: r.Intn(2) == 0, Founder: node}, false
		for other := range p.v.Members {
			if other == node || r.Intn(3) == 0 {
				p.v.Members[other] = api.Member{In: true, Epoch: max(1, p.epochs[other]+int64(r.Intn(3))-1)}
				if r.Intn(20) == 0 {
					p.v.Members[other].Epoch = api.MaxEpoch
				}
			}
		}
		layView(t, d, p.v)
	}
}

// begin is a job, a device of at least as many nodes, and the same in words.
func begin(t *testing.T, r *rand.Rand) (*plain, *device.Device) {
	t.Helper()
	p := &plain{j: of(2 + r.Intn(api.MaxNodes-1)), v: first}
	d := sized(t, 9+8*5+2, make([]int64, p.j.Nodes+r.Intn(api.MaxNodes+1-p.j.Nodes))...)
	return p, d
}

// P11.1 to P11.5, P0.9: any rows of calls, on any sectors, held against the chapter's words.
func TestAnyCalls(t *testing.T) {
	for seed := range int64(400) {
		r := rand.New(rand.NewSource(seed))
		p, d := begin(t, r)
		for range 150 {
			p.step(t, d, r, true)
			if t.Failed() {
				t.Fatalf("seed %d", seed)
			}
		}
	}
}

// P11.6, P0.2: if all is done by these calls: numbers rise by one; who is missing is fenced; a view that opened was one whose members were all ready; nothing that is fenced was done by.
func TestWhatFollows(t *testing.T) {
	opened, missing := 0, 0
	for seed := range int64(400) {
		r := rand.New(rand.NewSource(9000 + seed))
		p, d := begin(t, r)
		for range 150 {
			was, before := d.Copy(), p.v
			p.step(t, d, r, false)
			now, e := member.View(d, p.j)
			if e != api.OK || now.Number != before.Number && now.Number != before.Number+1 {
				t.Fatalf("seed %d: from %d to %d, %v", seed, before.Number, now.Number, e)
			}
			for node, m := range before.Members {
				if m.In && now.Members[node] != m {
					missing++
					if !d.Fenced(node, m.Epoch) {
						t.Fatalf("seed %d: %d is missing, and not fenced", seed, node)
					}
				}
			}
			switch {
			case now == before:
			case now.Number == before.Number:
				opened++
				before.Open = true
				if now != before || !member.All(was, p.j, now) {
					t.Fatalf("seed %d: %+v opened", seed, now)
				}
			case now.Open || was.Fenced(now.Founder, now.Members[now.Founder].Epoch):
				t.Fatalf("seed %d: %+v was founded", seed, now)
			}
		}
	}
	if opened < 400 || missing < 400 {
		t.Errorf("%d opened, %d missing: that tells little", opened, missing)
	}
}
