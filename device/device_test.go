package device_test

import (
	"bytes"
	"math"
	"slices"
	"testing"

	"millpond/api"
	"millpond/device"
)

// full is a sector full of a byte.
func full(c byte) api.Sector { return api.Sector(bytes.Repeat([]byte{c}, api.SectorSize)) }

// made is a device of noughts.
func made(t *testing.T, sectors, nodes int) *device.Device {
	t.Helper()
	d, e := device.New(sectors, nodes)
	if e != api.OK {
		t.Fatalf("New(%d, %d): %v", sectors, nodes, e)
	}
	return d
}

// of is a device of sectors full of these bytes, with these epochs.
func of(t *testing.T, text string, epochs ...int64) *device.Device {
	t.Helper()
	var b []byte
	for _, c := range []byte(text) {
		b = append(b, bytes.Repeat([]byte{c}, api.SectorSize)...)
	}
	d, e := device.Of(b, epochs...)
	if e != api.OK {
		t.Fatalf("Of(%q, %v): %v", text, epochs, e)
	}
	return d
}

// text is what a device of such sectors has: a byte a sector, '.' for noughts, '?' for a sector of several bytes.
func text(d *device.Device) string {
	var b []byte
	for _, s := range d.All() {
		switch {
		case s == api.Sector{}:
			b = append(b, '.')
		case s == full(s[0]):
			b = append(b, s[0])
		default:
			b = append(b, '?')
		}
	}
	return string(b)
}

// epochs are all of a device.
func epochs(d *device.Device) []int64 {
	var l []int64
	for i := range d.Nodes() {
		n, _ := d.Epoch(i)
		l = append(l, n)
	}
	return l
}

// has: are the sectors, the epochs and Done those?
func has(t *testing.T, d *device.Device, sectors string, done int64, want ...int64) {
	t.Helper()
	if text(d) != sectors || d.Done() != done || !slices.Equal(epochs(d), want) {
		t.Errorf("it has %q, %d done, epochs %v; not %q, %d, %v", text(d), d.Done(), epochs(d), sectors, done, want)
	}
}

// P2.1
func TestNewTakesJustWhatMayBe(t *testing.T) {
	for _, x := range []struct {
		sectors, nodes int
		want           api.Errno
	}{
		{1, 1, api.OK}, {api.MaxSectors, api.MaxNodes, api.OK}, {1, api.MaxNodes, api.OK}, {api.MaxSectors, 1, api.OK}, {7, 3, api.OK},
		{0, 1, api.ErrArg}, {api.MaxSectors + 1, 1, api.ErrArg}, {-1, 1, api.ErrArg}, {math.MaxInt, 1, api.ErrArg}, {math.MinInt, 1, api.ErrArg},
		{1, 0, api.ErrArg}, {1, api.MaxNodes + 1, api.ErrArg}, {1, -1, api.ErrArg}, {1, math.MaxInt, api.ErrArg}, {1, math.MinInt, api.ErrArg},
		{0, 0, api.ErrArg},
	} {
		d, e := device.New(x.sectors, x.nodes)
		if e != x.want {
			t.Errorf("New(%d, %d): %v, not %v", x.sectors, x.nodes, e, x.want)
		}
		if e != api.OK {
			if d != nil {
				t.Errorf("New(%d, %d): a device beside an error", x.sectors, x.nodes)
			}
			continue
		}
		if d.Size() != x.sectors || d.Nodes() != x.nodes || d.Done() != 0 || !d.Whole() {
			t.Errorf("New(%d, %d): %d, %d, %d", x.sectors, x.nodes, d.Size(), d.Nodes(), d.Done())
		}
		if !bytes.Equal(d.Bytes(), make([]byte, x.sectors*api.SectorSize)) || !slices.Equal(epochs(d), make([]int64, x.nodes)) {
			t.Errorf("New(%d, %d): not all noughts", x.sectors, x.nodes)
		}
	}
}

// P2.1, P0.9
func TestOfTakesJustWhatMayBe(t *testing.T) {
	const most = api.MaxSectors * api.SectorSize
	nodes := make([]int64, api.MaxNodes+1)
	for _, x := range []struct {
		name   string
		many   int
		epochs []int64
		want   api.Errno
	}{
		{"a sector", api.SectorSize, []int64{0}, api.OK},
		{"all there may be", most, []int64{0, 1, 2, 3, 4, 5, 6, api.MaxEpoch}, api.OK},
		{"no bytes", 0, []int64{0}, api.ErrArg},
		{"a byte", 1, []int64{0}, api.ErrArg},
		{"a byte too few", api.SectorSize - 1, []int64{0}, api.ErrArg},
		{"a byte too many", api.SectorSize + 1, []int64{0}, api.ErrArg},
		{"a byte less than all", most - 1, []int64{0}, api.ErrArg},
		{"a byte more than all", most + 1, []int64{0}, api.ErrArg},
		{"a sector more than all", most + api.SectorSize, []int64{0}, api.ErrArg},
		{"no epochs", api.SectorSize, nil, api.ErrArg},
		{"an epoch more than nodes", api.SectorSize, nodes, api.ErrArg},
		{"an epoch below 0", api.SectorSize, []int64{0, -1}, api.ErrArg},
		{"the least epoch", api.SectorSize, []int64{math.MinInt64, 0}, api.ErrArg},
		{"an epoch above all", api.SectorSize, []int64{api.MaxEpoch + 1, 0}, api.ErrArg},
		{"the greatest epoch", api.SectorSize, []int64{0, 0, math.MaxInt64}, api.ErrArg},
	} {
		b := make([]byte, x.many)
		for i := range b {
			b[i] = byte(i*7 + i>>6)
		}
		d, e := device.Of(b, x.epochs...)
		if e != x.want || (e != api.OK && d != nil) {
			t.Errorf("%s: %v, not %v", x.name, e, x.want)
		}
		if x.want != api.OK {
			continue
		}
		if !bytes.Equal(d.Bytes(), b) || !slices.Equal(epochs(d), x.epochs) || d.Size() != x.many/api.SectorSize || d.Nodes() != len(x.epochs) || d.Done() != 0 {
			t.Errorf("%s: it is not of these", x.name)
		}
		for i := range d.Size() {
			if s, e := d.Read(i); e != api.OK || s != api.Sector(b[i*api.SectorSize:][:api.SectorSize]) {
				t.Fatalf("%s: the sector %d", x.name, i)
			}
		}
	}
}

// P2.1, P2.5: what is handed in is neither changed nor kept, and what is answered is the caller's.
func TestMemoryIsApart(t *testing.T) {
	b, l := bytes.Repeat([]byte{'b'}, 2*api.SectorSize), []int64{1, 2}
	d, _ := device.Of(b, l...)
	b[0], l[1] = 'x', 9
	has(t, d, "bb", 0, 1, 2)

	d.Bytes()[0] = 'x'
	has(t, d, "bb", 0, 1, 2)
	for _, s := range d.All() {
		s[0] = 'x'
	}
	s, _ := d.Read(0)
	s[0] = 'x'
	has(t, d, "bb", 0, 1, 2)

	w := []api.Sector{full('v'), full('w')}
	d.Write(1, 2, 0, w...)
	if w[0] != full('v') || w[1] != full('w') {
		t.Error("Write changed what it was handed")
	}
	w[0], w[1] = full('x'), full('x')
	has(t, d, "vw", 2, 1, 2)
	if b[api.SectorSize] != 'b' || l[0] != 1 {
		t.Error("what was handed to Of was changed")
	}
}

// P2.2
func TestRead(t *testing.T) {
	d := of(t, "abc", 0)
	for i, c := range []byte("abc") {
		if s, e := d.Read(i); s != full(c) || e != api.OK {
			t.Errorf("Read(%d): %v", i, e)
		}
	}
	for _, i := range []int{-1, 3, 4, math.MaxInt, math.MinInt} {
		if s, e := d.Read(i); s != (api.Sector{}) || e != api.ErrArg {
			t.Errorf("Read(%d): %v", i, e)
		}
	}
}

// P2.2: where sectors may be written, and how many.
func TestWriteStaysOnTheDevice(t *testing.T) {
	for _, x := range []struct {
		first, many int
		want        api.Errno
		has         string
	}{
		{0, 0, api.OK, "...."}, {2, 0, api.OK, "...."}, {4, 0, api.OK, "...."},
		{5, 0, api.ErrArg, "...."}, {-1, 0, api.ErrArg, "...."}, {math.MaxInt, 0, api.ErrArg, "...."}, {math.MinInt, 0, api.ErrArg, "...."},
		{0, 1, api.OK, "a..."}, {3, 1, api.OK, "...a"}, {2, 2, api.OK, "..ab"}, {1, 2, api.OK, ".ab."}, {0, 4, api.OK, "abcd"},
		{4, 1, api.ErrArg, "...."}, {3, 2, api.ErrArg, "...."}, {0, 5, api.ErrArg, "...."}, {-1, 1, api.ErrArg, "...."}, {-1, 2, api.ErrArg, "...."}, {-4, 4, api.ErrArg, "...."},
		{math.MaxInt, 1, api.ErrArg, "...."}, {math.MaxInt, 5, api.ErrArg, "...."}, {math.MinInt, 1, api.ErrArg, "...."}, {math.MaxInt - 3, 4, api.ErrArg, "...."},
	} {
		d := made(t, 4, 1)
		var l []api.Sector
		for i := range x.many {
			l = append(l, full('a'+byte(i)))
		}
		if e := d.Write(0, 0, x.first, l...); e != x.want {
			t.Errorf("Write of %d at %d: %v, not %v", x.many, x.first, e, x.want)
		}
		done := int64(0)
		if x.want == api.OK {
			done = int64(x.many)
		}
		has(t, d, x.has, done, 0)
	}
}

// P2.2, P2.6, P0.2: who may write and swap, and that a wrong one changes nothing.
func TestWhoMayWrite(t *testing.T) {
	for _, x := range []struct {
		name   string
		node   int
		epoch  int64
		sector int
		want   api.Errno
	}{
		{"the device's epoch", 0, 5, 1, api.OK},
		{"one of 0", 1, 0, 1, api.OK},
		{"the greatest", 2, api.MaxEpoch, 1, api.OK},
		{"one less", 0, 4, 1, api.ErrFenced},
		{"a fenced 0", 0, 0, 1, api.ErrFenced},
		{"one less than the greatest", 2, api.MaxEpoch - 1, 1, api.ErrFenced},
		{"one more", 0, 6, 1, api.ErrArg},
		{"one more than 0", 1, 1, 1, api.ErrArg},
		{"one beyond all", 2, api.MaxEpoch + 1, 1, api.ErrArg},
		{"below 0", 0, -1, 1, api.ErrArg},
		{"below 0 where it is 0", 1, -1, 1, api.ErrArg},
		{"the least number", 2, math.MinInt64, 1, api.ErrArg},
		{"the greatest number", 2, math.MaxInt64, 1, api.ErrArg},
		{"no such node", 3, 0, 1, api.ErrArg},
		{"a node that is not there, though the array has its place", 7, 0, 1, api.ErrArg},
		{"a node below 0", -1, 0, 1, api.ErrArg},
		{"a node beyond all", math.MaxInt, 0, 1, api.ErrArg},
		{"a fenced one at no sector", 0, 4, 3, api.ErrArg},
		{"a fenced one at a sector below 0", 0, 4, -1, api.ErrArg},
		{"a good one at no sector", 0, 5, 3, api.ErrArg},
	} {
		d := of(t, "abc", 5, 0, api.MaxEpoch)
		sectors, done := "abc", int64(0)
		if x.want == api.OK {
			sectors, done = "axc", 1
		}
		if e := d.Write(x.node, x.epoch, x.sector, full('x')); e != x.want {
			t.Errorf("%s: Write: %v, not %v", x.name, e, x.want)
		}
		has(t, d, sectors, done, 5, 0, api.MaxEpoch)

		d = of(t, "abc", 5, 0, api.MaxEpoch)
		if ok, e := d.Swap(x.node, x.epoch, x.sector, full('b'), full('x')); e != x.want || ok != (e == api.OK) {
			t.Errorf("%s: Swap: %v, %v, not %v", x.name, ok, e, x.want)
		}
		has(t, d, sectors, done, 5, 0, api.MaxEpoch)
	}
}

// P2.2: even what writes nothing says who it is.
func TestNoSectorsAreRefusedToo(t *testing.T) {
	d := of(t, "ab", 2)
	for _, x := range []struct {
		node  int
		epoch int64
		want  api.Errno
	}{{0, 2, api.OK}, {0, 1, api.ErrFenced}, {0, 3, api.ErrArg}, {0, -1, api.ErrArg}, {1, 0, api.ErrArg}} {
		if e := d.Write(x.node, x.epoch, 2); e != x.want {
			t.Errorf("%d, %d: %v, not %v", x.node, x.epoch, e, x.want)
		}
	}
	has(t, d, "ab", 0, 2)
}

// P2.2
func TestSwapLooksAtEachByte(t *testing.T) {
	d := of(t, "aaa", 0)
	for i := range api.SectorSize {
		was := full('a')
		was[i]++
		if ok, e := d.Swap(0, 0, 1, was, full('x')); ok || e != api.OK {
			t.Errorf("another byte %d: %v, %v", i, ok, e)
		}
	}
	has(t, d, "aaa", 0, 0)
	if ok, e := d.Swap(0, 0, 1, full('a'), full('x')); !ok || e != api.OK {
		t.Errorf("just these bytes: %v, %v", ok, e)
	}
	has(t, d, "axa", 1, 0)
	if ok, e := d.Swap(0, 0, 1, full('x'), full('x')); !ok || e != api.OK {
		t.Errorf("from a sector to the same: %v, %v", ok, e)
	}
	has(t, d, "axa", 2, 0)
	for _, i := range []int{-1, 3, math.MaxInt, math.MinInt} {
		if ok, e := d.Swap(0, 0, i, full('a'), full('x')); ok || e != api.ErrArg {
			t.Errorf("at the sector %d: %v, %v", i, ok, e)
		}
	}
}

// P2.6: of two Swaps from one sector to another one, one at most swaps.
func TestOneOfTwoSwaps(t *testing.T) {
	d := of(t, "a", 0, 0)
	first, _ := d.Swap(0, 0, 0, full('a'), full('b'))
	second, _ := d.Swap(1, 0, 0, full('a'), full('c'))
	if !first || second {
		t.Error(first, second)
	}
	has(t, d, "b", 1, 0, 0)
}

// P2.5
func TestAllMayBeLeftAndGoneThroughAgain(t *testing.T) {
	d := of(t, "abcd", 0)
	all := d.All()
	for leave := range 5 {
		var got []byte
		for i, s := range all {
			if i == leave {
				break
			}
			if i != len(got) || s != full(s[0]) {
				t.Fatalf("the sector %d comes as number %d", i, len(got))
			}
			got = append(got, s[0])
		}
		if string(got) != "abcd"[:leave] {
			t.Errorf("left at %d: %q", leave, got)
		}
	}
}

// P2.5: as they are when it begins: neither as they were when All was called, nor as they become meanwhile.
func TestAllIsAsItBegins(t *testing.T) {
	d := of(t, "abc", 0)
	all := d.All()
	d.Write(0, 0, 0, full('x'))
	var got []byte
	for i, s := range all {
		d.Write(0, 0, 0, full('y'), full('y'), full('y'))
		d.Swap(0, 0, i, full('y'), full('z'))
		got = append(got, s[0])
	}
	if string(got) != "xbc" {
		t.Errorf("it tells %q", got)
	}
	if got = nil; text(d) != "yyz" {
		t.Errorf("it has %q", text(d))
	}
	for _, s := range all {
		got = append(got, s[0])
	}
	if string(got) != "yyz" {
		t.Errorf("once more it tells %q", got)
	}
}

// P2.5
func TestBytesAndOfGoThereAndBack(t *testing.T) {
	d := of(t, "abc", 4, 0, 9)
	d.Write(1, 0, 1, api.Sector{1, 2, 3})
	o, e := device.Of(d.Bytes(), epochs(d)...)
	if e != api.OK || !device.Same(d, o) || !bytes.Equal(d.Bytes(), o.Bytes()) || o.Done() != 0 {
		t.Error(e)
	}
}

// P2.5
func TestSame(t *testing.T) {
	d := of(t, "abc", 1, 2)
	for _, x := range []struct {
		name string
		a, b *device.Device
		want bool
	}{
		{"itself", d, d, true},
		{"of the same", d, of(t, "abc", 1, 2), true},
		{"another last sector", d, of(t, "abd", 1, 2), false},
		{"another first sector", d, of(t, "bbc", 1, 2), false},
		{"fewer sectors", d, of(t, "ab", 1, 2), false},
		{"more sectors", d, of(t, "abcd", 1, 2), false},
		{"another epoch", d, of(t, "abc", 1, 3), false},
		{"another first epoch", d, of(t, "abc", 0, 2), false},
		{"fewer nodes", d, of(t, "abc", 1), false},
		{"one node more, with 0", d, of(t, "abc", 1, 2, 0), false},
		{"two nil ones", nil, nil, true},
		{"nil and zero", nil, &device.Device{}, true},
		{"two zero ones", &device.Device{}, &device.Device{}, true},
		{"nil and another", nil, d, false},
		{"zero and another", &device.Device{}, d, false},
	} {
		if device.Same(x.a, x.b) != x.want || device.Same(x.b, x.a) != x.want {
			t.Errorf("%s: not %v", x.name, x.want)
		}
	}
	o := of(t, "abc", 1, 2)
	o.Write(0, 1, 0, full('a'))
	o.Cut(0)
	if !device.Same(d, o) {
		t.Error("what was done and a cut are no part of it")
	}
}

// P2.5
func TestCopyGoesOnApart(t *testing.T) {
	d := of(t, "abc", 1, 2)
	d.Write(0, 1, 0, full('x'))
	c := d.Copy()
	if !device.Same(c, d) || c.Done() != 1 || !c.Whole() {
		t.Error("the copy is another one")
	}
	d.Write(0, 1, 1, full('d'))
	d.Up(0)
	d.Fence(1, 2, 1, 8)
	has(t, c, "xbc", 1, 1, 2)
	c.Swap(1, 2, 2, full('c'), full('e'))
	c.Up(1)
	has(t, d, "xdc", 4, 2, 9)
	has(t, c, "xbe", 3, 1, 3)
}

// P2.2 to P2.5: ErrNil goes ahead of all; all other answers are zero, and Whole true.
func TestNilAndZero(t *testing.T) {
	for name, d := range map[string]*device.Device{"nil": nil, "zero": {}} {
		if d.Size() != 0 || d.Nodes() != 0 || d.Done() != 0 || len(d.Bytes()) != 0 || d.Copy() != nil {
			t.Errorf("%s: something is not zero", name)
		}
		for range d.All() {
			t.Errorf("%s: All tells something", name)
		}
		for _, node := range []int{0, -1, 99} {
			s, read := d.Read(node)
			n, epoch := d.Epoch(node)
			m, up := d.Up(node)
			ok, swap := d.Swap(node, -1, node, api.Sector{}, api.Sector{})
			for i, e := range []api.Errno{read, epoch, up, swap, d.Write(node, -1, node, full('a')), d.Write(node, 0, 0), d.Fence(node, -1, node, -1), d.Fence(0, 0, 0, 0), d.Cut(node)} {
				if e != api.ErrNil {
					t.Errorf("%s: %d: %v", name, i, e)
				}
			}
			if s != (api.Sector{}) || n != 0 || m != 0 || ok {
				t.Errorf("%s: something beside an error", name)
			}
		}
		if d.Fenced(0, 0) || d.Fenced(0, -1) || !d.Whole() || !d.Whole() {
			t.Errorf("%s: Fenced or Whole", name)
		}
	}
}
