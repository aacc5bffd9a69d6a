package view_test

import (
	"testing"

	"millpond/api"
	"millpond/view"
)

// epochs are those that a member may have, at the bounds and between.
var epochs = []int64{1, 2, 3, 255, 256, 1 << 24, api.MaxEpoch - 1, api.MaxEpoch}

// P9.2, P9.4: Join of each node into each view: of no member, of one with an elder, the same and a younger epoch; into a full view.
func TestJoin(t *testing.T) {
	for _, v := range some() {
		for node := range api.MaxNodes {
			for _, epoch := range append(epochs, v.Members[node].Epoch-1, v.Members[node].Epoch, v.Members[node].Epoch+1) {
				got, e := view.Join(v, node, epoch)
				switch {
				case epoch < 1 || epoch > api.MaxEpoch:
					refused(t, "no epoch", got, e, api.ErrArg)
				case v.Members[node].In && v.Members[node].Epoch >= epoch:
					refused(t, "a member", got, e, api.ErrThere)
				case v.Number == api.MaxNumber:
					refused(t, "the greatest number", got, e, api.ErrFull)
				default:
					want := api.View{Number: v.Number + 1, Founder: node, Members: v.Members}
					want.Members[node] = api.Member{In: true, Epoch: epoch}
					is(t, "Join", got, e, want)
					if elder := v.Members[node].Epoch; !view.May(got) || view.Is(got, node, elder) || !view.Is(got, node, epoch) {
						t.Errorf("%+v is the next of %+v", got, v)
					}
				}
			}
		}
	}
}

// P9.2: what Join does, in numbers that are written out.
func TestJoinByHand(t *testing.T) {
	v := of(7, true, 1, 1, 4, 6, 5)
	is(t, "of another one", joined(t, v, 3, 1), api.OK, of(8, false, 3, 1, 4, 3, 1, 6, 5))
	is(t, "of the first node", joined(t, v, 0, api.MaxEpoch), api.OK, of(8, false, 0, 0, api.MaxEpoch, 1, 4, 6, 5))
	is(t, "of the last node", joined(t, v, 7, 2), api.OK, of(8, false, 7, 1, 4, 6, 5, 7, 2))
	is(t, "of the founder anew", joined(t, v, 1, 5), api.OK, of(8, false, 1, 1, 5, 6, 5))
	is(t, "of a member anew", joined(t, v, 6, 9), api.OK, of(8, false, 6, 1, 4, 6, 9))
	got, e := view.Join(v, 1, 4)
	refused(t, "of a member as it is", got, e, api.ErrThere)
	got, e = view.Join(v, 1, 3)
	refused(t, "of an elder one", got, e, api.ErrThere)

	all := full(5, true)
	want := full(6, false)
	want.Founder, want.Members[4].Epoch = 4, 5
	is(t, "into a full one", joined(t, all, 4, 5), api.OK, want)
	got, e = view.Join(all, 5, api.MaxEpoch)
	refused(t, "of the greatest epoch", got, e, api.ErrThere)
	is(t, "up to the greatest number", joined(t, of(api.MaxNumber-1, true, 0, 0, 1), 1, 1), api.OK, of(api.MaxNumber, false, 1, 0, 1, 1, 1))
}

// P9.2: which error Join tells, where several could be.
func TestJoinsErrors(t *testing.T) {
	last := of(api.MaxNumber, false, 7, 0, 1, 7, 1)
	for _, n := range wrongNodes {
		for _, v := range some() {
			got, e := view.Join(v, n, 1)
			refused(t, "no node", got, e, api.ErrArg)
			got, e = view.Join(v, n, 0)
			refused(t, "nothing right", got, e, api.ErrArg)
		}
	}
	for _, epoch := range wrongEpochs {
		for _, v := range some() {
			for node := range api.MaxNodes {
				got, e := view.Join(v, node, epoch)
				refused(t, "no epoch", got, e, api.ErrArg)
			}
		}
	}
	for _, v := range wrong() {
		for node := range api.MaxNodes {
			for _, epoch := range []int64{1, 4, 9, api.MaxEpoch} {
				got, e := view.Join(v, node, epoch)
				refused(t, "no view", got, e, api.ErrArg)
			}
		}
	}
	got, e := view.Join(last, 0, 1)
	refused(t, "there, and no next one", got, e, api.ErrThere)
	got, e = view.Join(last, 0, 2)
	refused(t, "no next one", got, e, api.ErrFull)
	got, e = view.Join(last, 1, 1)
	refused(t, "no next one", got, e, api.ErrFull)
}

// P9.2, P9.4: Out of each node by each other one, in each view.
func TestOut(t *testing.T) {
	for _, v := range some() {
		for founder := range api.MaxNodes {
			for node := range api.MaxNodes {
				got, e := view.Out(v, founder, node)
				switch {
				case founder == node:
					refused(t, "of oneself", got, e, api.ErrArg)
				case !v.Members[founder].In || !v.Members[node].In:
					refused(t, "no member", got, e, api.ErrNone)
				case v.Number == api.MaxNumber:
					refused(t, "the greatest number", got, e, api.ErrFull)
				default:
					want := api.View{Number: v.Number + 1, Founder: founder, Members: v.Members}
					want.Members[node] = api.Member{}
					is(t, "Out", got, e, want)
					if !view.May(got) || view.Is(got, node, v.Members[node].Epoch) || !view.Is(got, founder, v.Members[founder].Epoch) || view.Count(got) != view.Count(v)-1 {
						t.Errorf("%+v is the next of %+v", got, v)
					}
				}
			}
		}
	}
}

// P9.2: what Out does, in numbers that are written out.
func TestOutByHand(t *testing.T) {
	v := of(7, true, 1, 1, 4, 3, 9, 6, 5)
	got, e := view.Out(v, 6, 1)
	is(t, "of the founder", got, e, of(8, false, 6, 3, 9, 6, 5))
	got, e = view.Out(v, 1, 6)
	is(t, "by the founder", got, e, of(8, false, 1, 1, 4, 3, 9))
	got, e = view.Out(v, 3, 6)
	is(t, "by another one", got, e, of(8, false, 3, 1, 4, 3, 9))
	got, e = view.Out(of(8, false, 1, 1, 4, 3, 9), 3, 1)
	is(t, "of all but one", got, e, of(9, false, 3, 3, 9))
	got, e = view.Out(of(api.MaxNumber-1, true, 0, 0, 1, 7, 1), 7, 0)
	is(t, "up to the greatest number", got, e, of(api.MaxNumber, false, 7, 7, 1))
	for _, w := range [][2]int{{1, 0}, {0, 1}, {0, 2}, {7, 6}, {6, 7}} {
		got, e = view.Out(v, w[0], w[1])
		refused(t, "of or by no member", got, e, api.ErrNone)
	}
	got, e = view.Out(first, 0, 1)
	refused(t, "of the first one", got, e, api.ErrNone)
}

// P9.2: which error Out tells, where several could be.
func TestOutsErrors(t *testing.T) {
	last := of(api.MaxNumber, false, 7, 0, 1, 7, 1)
	for _, n := range wrongNodes {
		for _, v := range some() {
			for node := range api.MaxNodes {
				got, e := view.Out(v, n, node)
				refused(t, "no founder", got, e, api.ErrArg)
				got, e = view.Out(v, node, n)
				refused(t, "no node", got, e, api.ErrArg)
			}
			got, e := view.Out(v, n, n)
			refused(t, "neither", got, e, api.ErrArg)
		}
	}
	for _, v := range wrong() {
		for founder := range api.MaxNodes {
			for node := range api.MaxNodes {
				got, e := view.Out(v, founder, node)
				refused(t, "no view", got, e, api.ErrArg)
			}
		}
	}
	got, e := view.Out(last, 1, 1)
	refused(t, "of oneself, who is no member", got, e, api.ErrArg)
	got, e = view.Out(last, 0, 1)
	refused(t, "of no member, and no next one", got, e, api.ErrNone)
	got, e = view.Out(last, 1, 0)
	refused(t, "by no member, and no next one", got, e, api.ErrNone)
	got, e = view.Out(last, 0, 7)
	refused(t, "no next one", got, e, api.ErrFull)
}

// P9.2: Opened of the first one, of those that are open and of those that are not, the greatest number among them.
func TestOpened(t *testing.T) {
	got, e := view.Opened(first)
	refused(t, "the first one", got, e, api.ErrArg)
	got, e = view.Opened(of(2, false, 0, 0, 3, 2, 1))
	is(t, "one by hand", got, e, of(2, true, 0, 0, 3, 2, 1))
	got, e = view.Opened(full(api.MaxNumber, false))
	is(t, "the greatest number", got, e, full(api.MaxNumber, true))
	for _, v := range some()[1:] {
		got, e := view.Opened(v)
		if v.Open {
			refused(t, "an open one", got, e, api.ErrThere)
			continue
		}
		want := v
		want.Open = true
		is(t, "one that is not", got, e, want)
		got, e = view.Opened(got)
		refused(t, "once more", got, e, api.ErrThere)
	}
	for _, v := range wrong() {
		got, e := view.Opened(v)
		refused(t, "no view", got, e, api.ErrArg)
	}
}
