package member_test

import (
	"testing"

	"millpond/api"
	"millpond/member"
)

// P11.2: each node joins, one behind the other; each next view has one number more, all members and their epochs, and its founder.
func TestJoin(t *testing.T) {
	for nodes := 2; nodes <= api.MaxNodes; nodes++ {
		j := of(nodes)
		epochs := []int64{1, 2, 300, api.MaxEpoch, 5, 6, 7, 8}[:nodes]
		for begin := range nodes {
			d := made(t, j, epochs...)
			var in [api.MaxNodes]int64
			for i := range nodes {
				node := (begin + i) % nodes
				in[node] = epochs[node]
				v := viewOf(int64(i)+1, false, node, in[:]...)
				was := d.Copy()
				join(t, d, j, node, epochs[node], v, true, api.OK)
				swapped(t, "Join", d, was, v, 1)
				shows(t, d, j, v)
			}
		}
	}
}

// P11.2: behind an open view, and one that is not, of any number but the greatest.
func TestJoinBehindAnyView(t *testing.T) {
	j := of(3)
	for _, number := range []int64{1, 2, 255, 256, 1 << 40, api.MaxNumber - 1} {
		for _, isOpen := range []bool{false, true} {
			d := made(t, j, 4, 5, 6)
			layView(t, d, viewOf(number, isOpen, 0, 4, 0, 6))
			was := d.Copy()
			v := viewOf(number+1, false, 1, 4, 5, 6)
			join(t, d, j, 1, 5, v, true, api.OK)
			swapped(t, "Join", d, was, v, 1)
		}
	}
}

// P11.2: a member with that epoch, or a greater one (which the device has not yet), is told the view as it is, of the greatest number too.
func TestJoinOfAMember(t *testing.T) {
	j := of(3)
	for _, number := range []int64{1, 7, api.MaxNumber} {
		for _, isOpen := range []bool{false, true} {
			for _, epoch := range []int64{5, 6, 1000, api.MaxEpoch} {
				for founder := range 2 {
					d := made(t, j, 4, 5, 6)
					v := viewOf(number, isOpen, founder, 3, epoch)
					layView(t, d, v)
					was := d.Copy()
					join(t, d, j, 1, 5, v, false, api.OK)
					untouched(t, "Join of a member", d, was)
				}
			}
		}
	}
}

// P11.2, P11.6: an elder incarnation makes room for the next one, which the device has fenced it by.
func TestJoinInThePlaceOfAnElderOne(t *testing.T) {
	j := of(3)
	d := made(t, j, 1, 1, 1)
	join(t, d, j, 0, 1, viewOf(1, false, 0, 1), true, api.OK)
	join(t, d, j, 1, 1, viewOf(2, false, 1, 1, 1), true, api.OK)
	d.Up(0)
	join(t, d, j, 0, 1, api.View{}, false, api.ErrFenced)
	join(t, d, j, 0, 2, viewOf(3, false, 0, 2, 1), true, api.OK)
	join(t, d, j, 0, 2, viewOf(3, false, 0, 2, 1), false, api.OK)
	for range 7 {
		d.Up(0)
	}
	was := d.Copy()
	join(t, d, j, 0, 9, viewOf(4, false, 0, 9, 1), true, api.OK)
	swapped(t, "Join", d, was, viewOf(4, false, 0, 9, 1), 1)
}

// P11.2: one who is fenced does not join, nor is it told the view, though it is a member by that epoch.
func TestJoinOfAFencedOne(t *testing.T) {
	j := of(2)
	d := made(t, j, 5, 1)
	for _, v := range []api.View{first, viewOf(3, true, 0, 4, 1), viewOf(3, true, 0, 9, 1), viewOf(api.MaxNumber, false, 1, 0, 1)} {
		layView(t, d, v)
		for epoch := int64(1); epoch < 5; epoch++ {
			refused(t, d, api.ErrFenced, "Join", func() (api.View, bool, api.Errno) { return member.Join(d, j, 0, epoch) })
		}
	}
}

// P11.2, P11.3: behind the greatest number there is none; who is to be put out is not fenced.
func TestNoNextView(t *testing.T) {
	j := of(3)
	for _, isOpen := range []bool{false, true} {
		d := made(t, j, 4, 5, 6)
		layView(t, d, viewOf(api.MaxNumber, isOpen, 0, 4, 4))
		refused(t, d, api.ErrFull, "Join of one more", func() (api.View, bool, api.Errno) { return member.Join(d, j, 2, 6) })
		refused(t, d, api.ErrFull, "Join of a younger one", func() (api.View, bool, api.Errno) { return member.Join(d, j, 1, 5) })
		refused(t, d, api.ErrFull, "Out", func() (api.View, bool, api.Errno) { return member.Out(d, j, 0, 4, 1) })
		refused(t, d, api.ErrNone, "Out by none", func() (api.View, bool, api.Errno) { return member.Out(d, j, 2, 6, 1) })
		refused(t, d, api.ErrNone, "Out of none", func() (api.View, bool, api.Errno) { return member.Out(d, j, 0, 4, 2) })
	}
}

// P11.3, P0.2: each member puts each other one out: that one is fenced, and nobody else; all others stay.
func TestOut(t *testing.T) {
	for nodes := 2; nodes <= api.MaxNodes; nodes++ {
		j := of(nodes)
		epochs := []int64{1, 2, 300, api.MaxEpoch - 1, 5, 6, 7, 8}[:nodes]
		for node := range nodes {
			for who := range nodes {
				if node == who {
					continue
				}
				for _, isOpen := range []bool{false, true} {
					d := made(t, j, epochs...)
					layView(t, d, viewOf(41, isOpen, who, epochs...))
					was := d.Copy()
					in, raised := append([]int64{}, epochs...), append([]int64{}, epochs...)
					in[who] = 0
					raised[who]++
					v := viewOf(42, false, node, in...)
					out(t, d, j, node, epochs[node], who, v, true, api.OK)
					swapped(t, "Out", d, was, v, 2, raised...)
					if !d.Fenced(who, epochs[who]) || d.Fenced(node, epochs[node]) {
						t.Errorf("Out(%d, %d): the wrong one is fenced", node, who)
					}
					say(t, d, j, who, api.Lease{Epoch: epochs[who]}, api.ErrFenced)
					refused(t, d, api.ErrNone, "Out once more", func() (api.View, bool, api.Errno) {
						return member.Out(d, j, node, epochs[node], who)
					})
				}
			}
		}
	}
}

// P11.3: what is fenced is who's epoch as the view has it: one that the device has fenced already is not raised further; one that the device has not yet is fenced all the same.
func TestOutFencesAsTheViewHasIt(t *testing.T) {
	j := of(2)
	for _, x := range []struct {
		has, in, then int64
		things        int64
	}{{1, 1, 2, 2}, {2, 1, 2, 1}, {9, 1, 9, 1}, {9, 8, 9, 1}, {9, 9, 10, 2}, {9, 10, 11, 2}, {0, 1, 2, 2}, {3, 700, 701, 2}, {api.MaxEpoch, 5, api.MaxEpoch, 1}, {api.MaxEpoch, api.MaxEpoch - 1, api.MaxEpoch, 1}, {7, api.MaxEpoch - 1, api.MaxEpoch, 2}} {
		d := made(t, j, 4, x.has)
		layView(t, d, viewOf(1, true, 1, 4, x.in))
		was := d.Copy()
		v := viewOf(2, false, 0, 4)
		out(t, d, j, 0, 4, 1, v, true, api.OK)
		swapped(t, "Out", d, was, v, x.things, 4, x.then)
		if t.Failed() {
			t.Fatalf("%+v", x)
		}
	}
}

// P11.3, P11.6: no epoch is above the greatest: who has that one cannot be fenced, so nobody puts it out. The device's Fence says ErrArg.
func TestOutOfWhoCannotBeFenced(t *testing.T) {
	j := of(2)
	for _, has := range []int64{1, api.MaxEpoch} {
		d := made(t, j, 4, has)
		layView(t, d, viewOf(1, true, 1, 4, api.MaxEpoch))
		refused(t, d, api.ErrArg, "Out", func() (api.View, bool, api.Errno) { return member.Out(d, j, 0, 4, 1) })
	}
}

// P11.3: by who is no member, or one with another epoch; of who is none; nobody is fenced.
func TestOutWhereOneIsNone(t *testing.T) {
	j := of(3)
	for _, x := range []struct {
		v         api.View
		node, who int
	}{
		{first, 0, 1}, {first, 2, 0},
		{viewOf(1, true, 1, 0, 5), 0, 1},
		{viewOf(1, true, 1, 3, 5), 0, 1}, {viewOf(1, true, 1, 6, 5), 0, 1}, {viewOf(1, false, 0, api.MaxEpoch, 5), 0, 1},
		{viewOf(1, true, 0, 4), 0, 1}, {viewOf(1, false, 0, 4, 5), 0, 2}, {viewOf(1, false, 1, 4, 5), 1, 2},
		{viewOf(1, false, 2, 0, 0, 6), 0, 1},
	} {
		d := made(t, j, 4, 5, 6)
		layView(t, d, x.v)
		epoch, _ := d.Epoch(x.node)
		refused(t, d, api.ErrNone, "Out", func() (api.View, bool, api.Errno) { return member.Out(d, j, x.node, epoch, x.who) })
	}
}

// P11.3, P0.2: one who is fenced fences nobody, though the view has it, and whoever it puts out.
func TestOutByAFencedOne(t *testing.T) {
	j := of(3)
	d := made(t, j, 4, 5, 6)
	for _, v := range []api.View{first, viewOf(1, true, 0, 3, 5), viewOf(1, true, 0, 3, 5, 6), viewOf(api.MaxNumber, true, 0, 3, 5, 6)} {
		layView(t, d, v)
		for who := 1; who < 3; who++ {
			refused(t, d, api.ErrFenced, "Out", func() (api.View, bool, api.Errno) { return member.Out(d, j, 0, 3, who) })
		}
	}
}

// P11.3, P0.2: wherever a crash cuts, the fence is ahead of the swap; who puts out once more goes on from there.
func TestOutBehindACut(t *testing.T) {
	j := of(3)
	was, next := viewOf(7, true, 1, 4, 5, 6), viewOf(8, false, 0, 4, 0, 6)
	for things := range 4 {
		d := made(t, j, 4, 5, 6)
		layView(t, d, was)
		d.Cut(things)
		out(t, d, j, 0, 4, 1, next, true, api.OK) // a cut is not to be seen in answers
		if d.Whole() != (things >= 2) {
			t.Errorf("a cut of %d", things)
		}
		if d.Fenced(1, 5) != (things >= 1) {
			t.Errorf("a cut of %d: fenced: %v", things, d.Fenced(1, 5))
		}
		if things < 2 {
			shows(t, d, j, was)
			out(t, d, j, 0, 4, 1, next, true, api.OK)
		}
		shows(t, d, j, next)
		if epoch, _ := d.Epoch(1); epoch != 6 {
			t.Errorf("the epoch is %d", epoch)
		}
	}
}

// P11.2: a Join that a crash takes back has not been.
func TestJoinBehindACut(t *testing.T) {
	j := of(2)
	for things := range 2 {
		d := made(t, j, 1, 1)
		d.Cut(things)
		join(t, d, j, 1, 1, viewOf(1, false, 1, 0, 1), true, api.OK)
		if d.Whole() != (things == 1) {
			t.Error("Join is more than one thing, or none")
		}
		join(t, d, j, 1, 1, viewOf(1, false, 1, 0, 1), things == 0, api.OK)
	}
}

// P11.2, P11.3: views with members that are none of the job's are gone on from, with them.
func TestStrangersStay(t *testing.T) {
	j := of(2)
	d := made(t, j, 1, 1)
	layView(t, d, viewOf(3, true, 5, 0, 0, 0, 0, 0, 9))
	join(t, d, j, 1, 1, viewOf(4, false, 1, 0, 1, 0, 0, 0, 9), true, api.OK)
	join(t, d, j, 0, 1, viewOf(5, false, 0, 1, 1, 0, 0, 0, 9), true, api.OK)
	out(t, d, j, 0, 1, 1, viewOf(6, false, 0, 1, 0, 0, 0, 0, 9), true, api.OK)
}

// P11.2, P11.3, P11.5: what another node has swapped between is gone on from: both are in; who was put out meanwhile is; who was founder meanwhile is not any more.
func TestOthersBetween(t *testing.T) {
	j := of(3)
	d := made(t, j, 1, 1, 1)
	ready := func(node int, number int64) {
		say(t, d, j, node, api.Lease{Epoch: 1, Ready: number}, api.OK)
	}
	join(t, d, j, 0, 1, viewOf(1, false, 0, 1), true, api.OK)
	join(t, d, j, 2, 1, viewOf(2, false, 2, 1, 0, 1), true, api.OK)
	join(t, d, j, 0, 1, viewOf(2, false, 2, 1, 0, 1), false, api.OK)
	ready(0, 2)
	ready(2, 2)
	open(t, d, j, 0, 1, api.View{}, false, api.ErrNone)
	join(t, d, j, 1, 1, viewOf(3, false, 1, 1, 1, 1), true, api.OK)
	open(t, d, j, 2, 1, api.View{}, false, api.ErrNone)
	out(t, d, j, 2, 1, 1, viewOf(4, false, 2, 1, 0, 1), true, api.OK)
	out(t, d, j, 0, 1, 1, api.View{}, false, api.ErrNone)
	open(t, d, j, 1, 1, api.View{}, false, api.ErrFenced)
	open(t, d, j, 2, 1, api.View{}, false, api.ErrState)
	ready(0, 4)
	ready(2, 4)
	open(t, d, j, 2, 1, viewOf(4, true, 2, 1, 0, 1), true, api.OK)
	open(t, d, j, 0, 1, viewOf(4, true, 2, 1, 0, 1), false, api.OK)
}
