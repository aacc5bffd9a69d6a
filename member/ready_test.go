package member_test

import (
	"testing"

	"millpond/api"
	"millpond/device"
	"millpond/member"
)

// state is whether a member is ready.
type state struct {
	node  int
	ready bool
}

// readies fails unless Ready tells just that, each time it is gone over, and All goes by it.
func readies(t *testing.T, d *device.Device, j api.Job, v api.View, want ...state) {
	t.Helper()
	was := d.Copy()
	seq := member.Ready(d, j, v)
	for range 2 {
		var l []state
		for node, ready := range seq {
			l = append(l, state{node, ready})
		}
		if len(l) != len(want) {
			t.Fatalf("Ready(%+v): %v, not %v", v, l, want)
		}
		for i := range l {
			if l[i] != want[i] {
				t.Fatalf("Ready(%+v): %v, not %v", v, l, want)
			}
		}
	}
	all := len(want) > 0
	for _, s := range want {
		all = all && s.ready
	}
	if member.All(d, j, v) != all {
		t.Errorf("All(%+v) is %v", v, !all)
	}
	untouched(t, "Ready", d, was)
}

// P11.4: which lease makes a member ready: that epoch alone, and the view's number or more.
func TestWhoIsReady(t *testing.T) {
	j := of(2)
	for _, number := range []int64{1, 2, 300, api.MaxNumber - 1, api.MaxNumber} {
		for _, epoch := range []int64{1, 2, 300, api.MaxEpoch} {
			for _, isOpen := range []bool{false, true} {
				d := made(t, j, 1, 1)
				v := viewOf(number, isOpen, 1, 0, epoch)
				for _, n := range []int64{0, 1, number - 2, number - 1, number, number + 1, api.MaxNumber} {
					for _, e := range []int64{0, 1, epoch - 1, epoch, epoch + 1, api.MaxEpoch} {
						if n < 0 || n > api.MaxNumber || e > api.MaxEpoch {
							continue
						}
						for _, beat := range []int64{0, number, api.MaxNumber} {
							layLease(t, d, 1, api.Lease{Epoch: e, Beat: beat, Ready: n})
							readies(t, d, j, v, state{1, e == epoch && n >= number})
						}
					}
				}
			}
		}
	}
}

// P11.4: each set of members, with each set of those that are ready, rising; All of none, some and all.
func TestEachSetOfReadyOnes(t *testing.T) {
	j := of(8)
	d := made(t, j)
	for ready := range 256 {
		for node := range 8 {
			layLease(t, d, node, api.Lease{Epoch: int64(node) + 1, Beat: 5, Ready: 2 + int64(ready>>node&1)})
		}
		for in := 1; in < 256; in += 1 + ready%7 {
			v := api.View{Number: 3}
			var want []state
			for node := range 8 {
				if in>>node&1 == 1 {
					v.Members[node] = api.Member{In: true, Epoch: int64(node) + 1}
					v.Founder = node
					want = append(want, state{node, ready>>node&1 == 1})
				}
			}
			readies(t, d, j, v, want...)
		}
	}
}

// P11.4: one whose lease is none is not ready, nor one who is none of the job's, whatever its lease's sector says.
func TestLeasesThatAreNone(t *testing.T) {
	j := of(3)
	d := sized(t, 400, 1, 1, 1, 1, 1, 1, 1, 1)
	v := viewOf(2, false, 1, 1, 1, 1, 0, 1)
	for node := range 8 {
		layLease(t, d, node, api.Lease{Epoch: 1, Ready: 2})
	}
	readies(t, d, j, v, state{0, true}, state{1, true}, state{2, true}, state{4, false})
	readies(t, d, of(5), v, state{0, true}, state{1, true}, state{2, true}, state{4, true})
	readies(t, d, j, viewOf(2, false, 7, 0, 0, 0, 0, 0, 0, 0, 1), state{7, false})
	for node := range 3 {
		was, _ := d.Read(1 + node)
		for _, s := range []api.Sector{{7}, {209}, {63: 1}} {
			lay(t, d, 1+node, s)
			readies(t, d, j, viewOf(2, false, 1, 1, 1, 1), state{0, node != 0}, state{1, node != 1}, state{2, node != 2})
		}
		lay(t, d, 1+node, was)
	}
	lay(t, d, 0, api.Sector{7}) // the view on the device is not asked
	readies(t, d, j, viewOf(2, false, 1, 1, 1, 1), state{0, true}, state{1, true}, state{2, true})
}

// P11.4: nothing, of views that may not be, and of the first one, which has no members.
func TestReadyOfWrongViews(t *testing.T) {
	j := of(3)
	d := made(t, j, 1, 1, 1)
	for node := range 3 {
		layLease(t, d, node, api.Lease{Epoch: 1, Ready: api.MaxNumber})
	}
	silent(t, d, j, first)
	for _, v := range []api.View{
		{}, {Number: 1}, viewOf(0, true, 0, 1), viewOf(0, false, 0, 1), viewOf(-1, false, 0, 1), viewOf(api.MaxNumber+1, false, 0, 1),
		viewOf(1, false, 1, 1), viewOf(1, false, -1, 1), viewOf(1, false, 8, 1), viewOf(1, false, 0, -1), viewOf(1, false, 0, api.MaxEpoch+1),
		{Number: 1, Members: [api.MaxNodes]api.Member{{In: true}}},
		{Number: 1, Members: [api.MaxNodes]api.Member{{In: true, Epoch: 1}, {Epoch: 1}}},
	} {
		silent(t, d, j, v)
	}
	readies(t, d, j, viewOf(1, false, 0, 1), state{0, true})
}

// P11.4: it may be left at any time, and gone over once more.
func TestReadyLeftEarly(t *testing.T) {
	j := of(4)
	d := made(t, j)
	layLease(t, d, 2, api.Lease{Epoch: 3, Ready: 9})
	seq := member.Ready(d, j, viewOf(9, false, 0, 1, 2, 3, 4))
	for many := 1; many <= 4; many++ {
		seen := 0
		for node, ready := range seq {
			if node != seen || ready != (node == 2) {
				t.Errorf("the %d. is %d, %v", seen, node, ready)
			}
			if seen++; seen == many {
				break
			}
		}
		if seen != many {
			t.Errorf("%d of %d", seen, many)
		}
	}
}

// P11.4: gone over once more it tells what the device says by then.
func TestReadyOnceMore(t *testing.T) {
	j := of(2)
	d := made(t, j, 1, 1)
	v := viewOf(1, false, 0, 1)
	seq := member.Ready(d, j, v)
	for _, want := range []bool{false, true} {
		for node, ready := range seq {
			if node != 0 || ready != want {
				t.Error(node, ready)
			}
		}
		say(t, d, j, 0, api.Lease{Epoch: 1, Ready: 1}, api.OK)
	}
}

// P11.5: an open view is told as it is, whoever asks, and whoever is ready; the first one too.
func TestOpenOfAnOpenView(t *testing.T) {
	j := of(3)
	for _, v := range []api.View{first, viewOf(1, true, 0, 4), viewOf(7, true, 2, 4, 5, 6), viewOf(api.MaxNumber, true, 1, 0, 5), viewOf(3, true, 7, 0, 0, 0, 0, 0, 0, 0, 8)} {
		d := made(t, j, 4, 5, 6)
		layView(t, d, v)
		for range 2 {
			was := d.Copy()
			for node := range 3 {
				open(t, d, j, node, int64(node)+4, v, false, api.OK)
			}
			untouched(t, "Open of an open view", d, was)
			for node := range 3 {
				layLease(t, d, node, api.Lease{Epoch: int64(node) + 4, Ready: v.Number})
			}
		}
	}
}

// P11.5: only its founder opens a view, by the epoch that the view has for it; that is told ahead of who is not ready.
func TestOpenByWhoIsNotTheFounder(t *testing.T) {
	j := of(3)
	for range 2 {
		for founder := range 3 {
			d := made(t, j, 4, 5, 6)
			layView(t, d, viewOf(3, false, founder, 4, 5, 6))
			for _, ready := range []int64{2, 3} {
				for node := range 3 {
					layLease(t, d, node, api.Lease{Epoch: int64(node) + 4, Ready: ready})
				}
				for node := range 3 {
					if node != founder {
						refused(t, d, api.ErrNone, "Open", func() (api.View, bool, api.Errno) { return member.Open(d, j, node, int64(node)+4) })
					}
				}
			}
			for _, other := range []int64{1, int64(founder) + 3, int64(founder) + 5, api.MaxEpoch} { // the founder by another epoch
				v := viewOf(3, false, founder, 4, 5, 6)
				v.Members[founder].Epoch = other
				layView(t, d, v)
				layLease(t, d, founder, api.Lease{Epoch: other, Ready: 3})
				refused(t, d, api.ErrNone, "Open", func() (api.View, bool, api.Errno) { return member.Open(d, j, founder, int64(founder)+4) })
			}
		}
	}
}

// P11.5: not unless all are ready; then the same view is open, by one swap, of any number.
func TestOpen(t *testing.T) {
	for nodes := 2; nodes <= api.MaxNodes; nodes++ {
		j := of(nodes)
		epochs := []int64{1, 2, 300, api.MaxEpoch, 5, 6, 7, 8}[:nodes]
		for _, number := range []int64{1, 300, api.MaxNumber} {
			for founder := range nodes {
				d := made(t, j, epochs...)
				layView(t, d, viewOf(number, false, founder, epochs...))
				for i := range nodes {
					refused(t, d, api.ErrState, "Open", func() (api.View, bool, api.Errno) {
						return member.Open(d, j, founder, epochs[founder])
					})
					last := (founder + i) % nodes
					say(t, d, j, last, api.Lease{Epoch: epochs[last], Beat: 1, Ready: number}, api.OK)
				}
				was := d.Copy()
				v := viewOf(number, true, founder, epochs...)
				open(t, d, j, founder, epochs[founder], v, true, api.OK)
				swapped(t, "Open", d, was, v, 1)
				was = d.Copy()
				open(t, d, j, founder, epochs[founder], v, false, api.OK)
				untouched(t, "Open once more", d, was)
			}
		}
	}
}

// P11.5: not with one whose lease is none, nor with one who is none of the job's.
func TestOpenWhereOneIsNone(t *testing.T) {
	j := of(2)
	d := sized(t, 400, 1, 1, 1, 1, 1, 1, 1, 1)
	for node := range 8 {
		layLease(t, d, node, api.Lease{Epoch: 1, Ready: 5})
	}
	shut := func() (api.View, bool, api.Errno) { return member.Open(d, j, 0, 1) }
	layView(t, d, viewOf(5, false, 0, 1, 0, 1))
	refused(t, d, api.ErrState, "Open with a stranger", shut)
	layView(t, d, viewOf(5, false, 0, 1, 1))
	lay(t, d, 2, api.Sector{7})
	refused(t, d, api.ErrState, "Open with no lease", shut)
	layLease(t, d, 1, api.Lease{Epoch: 1, Ready: 5})
	lay(t, d, 1, api.Sector{7})
	refused(t, d, api.ErrState, "Open with no lease of its own", shut)
	layLease(t, d, 0, api.Lease{Epoch: 1, Ready: 6})
	lay(t, d, 3, api.Sector{7}) // nobody's
	open(t, d, j, 0, 1, viewOf(5, true, 0, 1, 1), true, api.OK)
}

// P11.5: one who is fenced opens nothing, and is not told an open view either.
func TestOpenByAFencedOne(t *testing.T) {
	j := of(2)
	for _, isOpen := range []bool{false, true} {
		d := made(t, j, 5, 1)
		layView(t, d, viewOf(3, isOpen, 0, 4))
		layLease(t, d, 0, api.Lease{Epoch: 4, Ready: 3})
		for epoch := int64(1); epoch < 5; epoch++ {
			refused(t, d, api.ErrFenced, "Open", func() (api.View, bool, api.Errno) { return member.Open(d, j, 0, epoch) })
		}
	}
}

// P11.5: an Open that a crash takes back has not been.
func TestOpenBehindACut(t *testing.T) {
	j := of(2)
	for things := range 2 {
		d := made(t, j, 1, 1)
		layView(t, d, viewOf(3, false, 1, 0, 1))
		say(t, d, j, 1, api.Lease{Epoch: 1, Ready: 3}, api.OK)
		d.Cut(things)
		open(t, d, j, 1, 1, viewOf(3, true, 1, 0, 1), true, api.OK)
		if d.Whole() != (things == 1) {
			t.Error("Open is more than one thing, or none")
		}
		shows(t, d, j, viewOf(3, things == 1, 1, 0, 1))
	}
}
