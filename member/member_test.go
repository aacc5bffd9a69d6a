package member_test

import (
	"math"
	"testing"

	"millpond/api"
	"millpond/area"
	"millpond/device"
	"millpond/lease"
	"millpond/member"
	"millpond/view"
)

// far are numbers far from all bounds, and such as wrap round to small ones.
var far = []int64{-1, -2, math.MinInt64, math.MaxInt64, math.MinInt32, 1 << 32, 1<<32 + 1, -1 << 32, 1<<62 + 1, math.MinInt64 + 1}

// of is a small job of so many nodes.
func of(nodes int) api.Job { return api.Job{Nodes: nodes, Pages: 1, Frames: 1, Log: 2, Patience: 2} }

// made is a device just as great as the job, of noughts, with these epochs (and 0 for nodes behind them).
func made(t *testing.T, j api.Job, epochs ...int64) *device.Device {
	t.Helper()
	many, e := area.Sectors(j)
	if e != api.OK {
		t.Fatalf("%+v: %v", j, e)
	}
	return sized(t, many, append(epochs, make([]int64, max(0, j.Nodes-len(epochs)))...)...)
}

func sized(t *testing.T, sectors int, epochs ...int64) *device.Device {
	t.Helper()
	d, e := device.Of(make([]byte, sectors*api.SectorSize), epochs...)
	if e != api.OK {
		t.Fatalf("a device of %d sectors, %v: %v", sectors, epochs, e)
	}
	return d
}

// lay writes a sector, by whoever the node 0 is by then.
func lay(t *testing.T, d *device.Device, at int, s api.Sector) {
	t.Helper()
	epoch, _ := d.Epoch(0)
	if e := d.Write(0, epoch, at, s); e != api.OK {
		t.Fatalf("the sector %d: %v", at, e)
	}
}

func layView(t *testing.T, d *device.Device, v api.View) {
	t.Helper()
	s, e := view.Put(v)
	if e != api.OK {
		t.Fatalf("%+v: %v", v, e)
	}
	lay(t, d, 0, s)
}

func layLease(t *testing.T, d *device.Device, node int, l api.Lease) {
	t.Helper()
	s, e := lease.Put(l)
	if e != api.OK {
		t.Fatalf("%+v: %v", l, e)
	}
	lay(t, d, 1+node, s)
}

// of a view: its number, whether it is open, who founded it, and the members' epochs (0 of none).
func viewOf(number int64, open bool, founder int, epochs ...int64) api.View {
	v := api.View{Number: number, Open: open, Founder: founder}
	for node, epoch := range epochs {
		v.Members[node] = api.Member{In: epoch != 0, Epoch: epoch}
	}
	return v
}

var first = api.View{Open: true}

// untouched fails, if anything was done to a device.
func untouched(t *testing.T, what string, d, was *device.Device) {
	t.Helper()
	if !device.Same(d, was) || d.Done() != was.Done() {
		t.Errorf("%s: the device is another one, by %d things", what, d.Done()-was.Done())
	}
}

// becomes fails unless the device is what it was, but for one sector, and for epochs; and as many things were done.
func becomes(t *testing.T, what string, d, was *device.Device, at int, s api.Sector, things int64, epochs ...int64) {
	t.Helper()
	for i, is := range d.All() {
		want, _ := was.Read(i)
		if i == at {
			want = s
		}
		if is != want {
			t.Errorf("%s: the sector %d", what, i)
		}
	}
	for node := range d.Nodes() {
		is, _ := d.Epoch(node)
		want, _ := was.Epoch(node)
		if node < len(epochs) {
			want = epochs[node]
		}
		if is != want {
			t.Errorf("%s: the epoch of %d is %d, not %d", what, node, is, want)
		}
	}
	if d.Done() != was.Done()+things {
		t.Errorf("%s: %d things were done, not %d", what, d.Done()-was.Done(), things)
	}
}

// swapped is becomes, of a view.
func swapped(t *testing.T, what string, d, was *device.Device, v api.View, things int64, epochs ...int64) {
	t.Helper()
	s, e := view.Put(v)
	if e != api.OK {
		t.Fatalf("%s: %+v: %v", what, v, e)
	}
	becomes(t, what, d, was, 0, s, things, epochs...)
}

// shows fails unless that is the view on the device.
func shows(t *testing.T, d *device.Device, j api.Job, want api.View) {
	t.Helper()
	if v, e := member.View(d, j); v != want || e != api.OK {
		t.Errorf("View: %+v, %v; not %+v", v, e, want)
	}
}

func says(t *testing.T, d *device.Device, j api.Job, node int, want api.Lease) {
	t.Helper()
	if l, e := member.Lease(d, j, node); l != want || e != api.OK {
		t.Errorf("Lease(%d): %+v, %v; not %+v", node, l, e, want)
	}
}

func say(t *testing.T, d *device.Device, j api.Job, node int, l api.Lease, want api.Errno) {
	t.Helper()
	if e := member.Say(d, j, node, l); e != want {
		t.Errorf("Say(%d, %+v): %v, not %v", node, l, e, want)
	}
}

// join, out, open fail unless the call is answered so; beside an error with zeros.
func join(t *testing.T, d *device.Device, j api.Job, node int, epoch int64, want api.View, did bool, wrong api.Errno) {
	t.Helper()
	if v, b, e := member.Join(d, j, node, epoch); v != want || b != did || e != wrong {
		t.Errorf("Join(%d, %d): %+v, %v, %v; not %+v, %v, %v", node, epoch, v, b, e, want, did, wrong)
	}
}

func out(t *testing.T, d *device.Device, j api.Job, node int, epoch int64, who int, want api.View, did bool, wrong api.Errno) {
	t.Helper()
	if v, b, e := member.Out(d, j, node, epoch, who); v != want || b != did || e != wrong {
		t.Errorf("Out(%d, %d, %d): %+v, %v, %v; not %+v, %v, %v", node, epoch, who, v, b, e, want, did, wrong)
	}
}

func open(t *testing.T, d *device.Device, j api.Job, node int, epoch int64, want api.View, did bool, wrong api.Errno) {
	t.Helper()
	if v, b, e := member.Open(d, j, node, epoch); v != want || b != did || e != wrong {
		t.Errorf("Open(%d, %d): %+v, %v, %v; not %+v, %v, %v", node, epoch, v, b, e, want, did, wrong)
	}
}

// refused fails unless the call is, with zeros beside the error, and the device is as it was.
func refused(t *testing.T, d *device.Device, wrong api.Errno, call string, do func() (api.View, bool, api.Errno)) {
	t.Helper()
	was := d.Copy()
	if v, did, e := do(); v != (api.View{}) || did || e != wrong {
		t.Errorf("%s: %+v, %v, %v; not %v", call, v, did, e, wrong)
	}
	untouched(t, call, d, was)
}

// P11.1 to P11.5: the chapter's examples.
func TestExamples(t *testing.T) {
	j := of(3)
	d := made(t, j)
	for node := range 3 {
		if epoch, e := d.Up(node); epoch != 1 || e != api.OK {
			t.Fatal(epoch, e)
		}
	}
	shows(t, d, j, first)
	one := viewOf(1, false, 0, 1)
	join(t, d, j, 0, 1, one, true, api.OK)
	join(t, d, j, 0, 1, one, false, api.OK)
	open(t, d, j, 0, 1, api.View{}, false, api.ErrState)
	say(t, d, j, 0, api.Lease{Epoch: 1, Beat: 1, Ready: 1}, api.OK)
	open(t, d, j, 0, 1, viewOf(1, true, 0, 1), true, api.OK)
	join(t, d, j, 1, 1, viewOf(2, false, 1, 1, 1), true, api.OK)
	open(t, d, j, 0, 1, api.View{}, false, api.ErrNone)
	out(t, d, j, 1, 1, 0, viewOf(3, false, 1, 0, 1), true, api.OK)
	if epoch, e := d.Epoch(0); epoch != 2 || e != api.OK {
		t.Error(epoch, e)
	}
	say(t, d, j, 0, api.Lease{Epoch: 1, Beat: 2}, api.ErrFenced)
	join(t, d, j, 2, 5, api.View{}, false, api.ErrArg)
	shows(t, d, j, viewOf(3, false, 1, 0, 1))
}

// P11.1, P0.11: each view that may be is told as it lies there, whatever nodes the job has.
func TestView(t *testing.T) {
	for nodes := 2; nodes <= api.MaxNodes; nodes++ {
		j := of(nodes)
		d := made(t, j)
		shows(t, d, j, first)
		for _, v := range []api.View{
			first, viewOf(1, false, 0, 1), viewOf(1, true, 0, 1), viewOf(api.MaxNumber, true, 1, 5, api.MaxEpoch),
			viewOf(7, false, 7, 1, 2, 3, 4, 5, 6, 7, 8), viewOf(300, true, 5, 0, 0, 0, 0, 0, 1<<24), viewOf(2, false, 0, 1, 1),
		} {
			layView(t, d, v)
			was := d.Copy()
			shows(t, d, j, v)
			shows(t, d, j, v)
			untouched(t, "View", d, was)
		}
	}
}

// P11.1, P0.11: each node's lease is its own, at the bounds too.
func TestLease(t *testing.T) {
	for nodes := 2; nodes <= api.MaxNodes; nodes++ {
		j := of(nodes)
		d := made(t, j)
		for node := range nodes {
			says(t, d, j, node, api.Lease{})
			for _, l := range []api.Lease{{Epoch: 1}, {Beat: 1}, {Ready: 1}, {Epoch: api.MaxEpoch, Beat: api.MaxNumber, Ready: api.MaxNumber}, {}, {Epoch: int64(node) + 1, Beat: 300, Ready: 70000}} {
				layLease(t, d, node, l)
				was := d.Copy()
				says(t, d, j, node, l)
				untouched(t, "Lease", d, was)
			}
		}
		for node := range nodes {
			says(t, d, j, node, api.Lease{Epoch: int64(node) + 1, Beat: 300, Ready: 70000})
		}
	}
}

// P11.1: what is said stands in the node's own sector alone, in whatever order numbers are said.
func TestSay(t *testing.T) {
	j := of(3)
	for node := range 3 {
		d := made(t, j, 5, 1, api.MaxEpoch)
		epoch, _ := d.Epoch(node)
		for _, l := range []api.Lease{{Epoch: epoch}, {Epoch: epoch, Beat: 1}, {Epoch: epoch, Beat: api.MaxNumber, Ready: api.MaxNumber}, {Epoch: epoch, Ready: 7}, {Epoch: epoch, Ready: 7}, {Epoch: epoch, Beat: 256, Ready: 3}} {
			was := d.Copy()
			say(t, d, j, node, l, api.OK)
			s, _ := lease.Put(l)
			becomes(t, "Say", d, was, 1+node, s, 1)
			says(t, d, j, node, l)
		}
	}
}

// P11.1: leases that may not be, and one of the epoch 0, which layer 10 takes; also of who is fenced, or came up never.
func TestSayOfWhatMayNotBe(t *testing.T) {
	j := of(3)
	for _, epoch := range []int64{0, 1, 2, 7, api.MaxEpoch} {
		d := made(t, j, epoch, epoch, epoch)
		var wrong []api.Lease
		for _, n := range append([]int64{0, epoch + 1, api.MaxEpoch + 1}, far...) {
			wrong = append(wrong, api.Lease{Epoch: n}, api.Lease{Epoch: n, Beat: 1, Ready: 1}, api.Lease{Epoch: n, Beat: -1})
		}
		for _, n := range append([]int64{-1, api.MaxNumber + 1}, far...) {
			if n < 0 || n > api.MaxNumber {
				for _, whose := range []int64{epoch, epoch - 1} {
					wrong = append(wrong, api.Lease{Epoch: whose, Beat: n}, api.Lease{Epoch: whose, Ready: n}, api.Lease{Epoch: whose, Beat: n, Ready: n})
				}
			}
		}
		was := d.Copy()
		for node := range 3 {
			for _, l := range wrong {
				say(t, d, j, node, l, api.ErrArg)
			}
		}
		untouched(t, "Say", d, was)
	}
}

// P11.1, P11.6: each elder epoch is fenced, and the device stays as it was.
func TestSayOfAFencedOne(t *testing.T) {
	j := of(2)
	d := made(t, j, 9, 5)
	say(t, d, j, 1, api.Lease{Epoch: 5, Beat: 3}, api.OK)
	was := d.Copy()
	for epoch := int64(1); epoch < 5; epoch++ {
		say(t, d, j, 1, api.Lease{Epoch: epoch, Beat: 4}, api.ErrFenced)
	}
	untouched(t, "Say", d, was)
	d.Fence(0, 9, 1, 5)
	was = d.Copy()
	say(t, d, j, 1, api.Lease{Epoch: 5, Beat: 4}, api.ErrFenced)
	untouched(t, "Say", d, was)
	say(t, d, j, 1, api.Lease{Epoch: 6}, api.OK)
	says(t, d, j, 1, api.Lease{Epoch: 6})
}

// P11.1, P0.9: what lies in the sectors, its own one and others, does not hinder who says; and it stands again as one that is a lease.
func TestSayOverWhatIsNone(t *testing.T) {
	j := of(2)
	d := made(t, j, 1, 1)
	for at := range 3 {
		lay(t, d, at, api.Sector{7})
	}
	if l, e := member.Lease(d, j, 1); l != (api.Lease{}) || e != api.ErrCorrupt {
		t.Error(l, e)
	}
	was := d.Copy()
	l := api.Lease{Epoch: 1, Beat: 2, Ready: 3}
	say(t, d, j, 1, l, api.OK)
	s, _ := lease.Put(l)
	becomes(t, "Say", d, was, 2, s, 1)
	says(t, d, j, 1, l)
}

// P11.1: a cut takes what is said back; the answer is the same.
func TestSayBehindACut(t *testing.T) {
	j := of(2)
	d := made(t, j, 1, 1)
	d.Cut(0)
	say(t, d, j, 0, api.Lease{Epoch: 1, Beat: 2}, api.OK)
	if d.Whole() {
		t.Error("it was said")
	}
	says(t, d, j, 0, api.Lease{})
}
