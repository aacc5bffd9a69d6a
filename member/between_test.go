package member

import (
	"testing"

	"millpond/api"
	"millpond/area"
	"millpond/device"
	"millpond/view"
)

// between lets something happen behind a node's look at the view, ahead of its Swap. No call lets others in there, so it is asked from within.
func between(t *testing.T, happens func(d *device.Device, j api.Job)) (*device.Device, api.View, bool, api.Errno) {
	t.Helper()
	j := api.Job{Nodes: 3, Pages: 1, Frames: 1, Log: 2, Patience: 2}
	many, _ := area.Sectors(j)
	d, _ := device.New(many, 3)
	for node := range 3 {
		d.Up(node)
	}
	a := asker{d, j, 0, 1}
	v, did, wrong := a.change(a.may(), func(was api.View) (api.View, api.Errno) {
		is, wrong := view.Join(was, 0, 1)
		happens(d, j)
		return is, wrong
	})
	return d, v, did, wrong
}

// P11.2, P11.3, P11.5: if it did not swap: the view on the device, and false.
func TestAnotherOneSwapsBetween(t *testing.T) {
	var others api.View
	d, v, did, wrong := between(t, func(d *device.Device, j api.Job) { others, _, _ = Join(d, j, 1, 1) })
	if v != others || others.Founder != 1 || v.Number != 1 || did || wrong != api.OK {
		t.Errorf("%+v, %v, %v; not %+v, false", v, did, wrong, others)
	}
	if s, _ := d.Read(0); read(d, 0, view.Get) != others {
		t.Errorf("the view's sector is %v", s)
	}
	if d.Done() != 4 {
		t.Errorf("%d things were done", d.Done())
	}
}

// P11.2: nobody between: it swaps.
func TestNobodyBetween(t *testing.T) {
	d, v, did, wrong := between(t, func(*device.Device, api.Job) {})
	if v.Number != 1 || v.Founder != 0 || !did || wrong != api.OK || read(d, 0, view.Get) != v {
		t.Errorf("%+v, %v, %v", v, did, wrong)
	}
}

// P11.2, P0.9: what another one left between is no view.
func TestNoViewBetween(t *testing.T) {
	d, v, did, wrong := between(t, func(d *device.Device, j api.Job) { d.Write(1, 1, 0, api.Sector{7}) })
	if v != (api.View{}) || did || wrong != api.ErrCorrupt {
		t.Errorf("%+v, %v, %v", v, did, wrong)
	}
	if s, _ := d.Read(0); s != (api.Sector{7}) {
		t.Error("it swapped", s)
	}
}

// P11.2, P11.6: another one fences it between.
func TestFencedBetween(t *testing.T) {
	d, v, did, wrong := between(t, func(d *device.Device, j api.Job) { d.Fence(1, 1, 0, 1) })
	if v != (api.View{}) || did || wrong != api.ErrFenced {
		t.Errorf("%+v, %v, %v", v, did, wrong)
	}
	if s, _ := d.Read(0); s != (api.Sector{}) {
		t.Error("it swapped", s)
	}
}

// P11.1: a fault of the program does not pass for an error of the chapter.
func TestAFaultIsNotHidden(t *testing.T) {
	defer func() {
		if recover() == nil {
			t.Error("it is hidden")
		}
	}()
	answer(nil, func() int { panic("a fault") })
}
