package holder_test

import (
	"testing"

	"millpond/api"
	"millpond/area"
	"millpond/device"
	"millpond/holder"
	"millpond/rebuild"
)

// The chapter's examples, one behind the other on one holder.
func TestExamples(t *testing.T) {
	j := of(2, 1, 4)
	many, _ := area.Sectors(j)
	d, _ := device.New(many, 2)
	d.Up(0)
	h, e := holder.New(d, j, 0, 1)
	fine(t, "New", e)
	a, b, c := api.Body{'a'}, api.Body{'b'}, api.Body{'c'}

	grants(t, h, 0, 1, api.Exclusive)
	if v, e := h.Write(0, a); v != (api.Version{PSN: 1, Body: a}) || e != api.OK {
		t.Error(v, e)
	}
	if v, e := h.Write(0, b); v != (api.Version{PSN: 2, Body: b}) || e != api.OK {
		t.Error(v, e)
	}
	logged(t, h, j, 1, 3, 0)

	if e := h.Grant(1, 1, api.Shared); e != api.ErrFull {
		t.Error(e)
	}
	frees(t, h, 1, api.Left{Page: 0, Op: 1, PSN: 2, Gone: true})
	logged(t, h, j, 1, 3, 2)
	grants(t, h, 1, 1, api.Shared)

	frees(t, h, 0, api.Left{Page: 1, Op: 1, PSN: 0, Gone: true})
	grants(t, h, 0, 2, api.Exclusive)
	third := api.Version{PSN: 3, Body: c}
	if v, e := h.Write(0, c); v != third || e != api.OK {
		t.Error(v, e)
	}
	if f, e := h.Yield(0, 2); f != (api.Frame{}) || e != api.ErrNone {
		t.Error(f, e)
	}
	yields(t, h, 0, 3, api.Frame{Page: 0, Mode: api.Exclusive, Op: 2, First: 3, V: third, Dirty: true})

	marked(t, h, api.Mark{Page: 0, PSN: 3, First: 3})
	fine(t, "Cut", h.Cut())
	logged(t, h, j, 3, 4, 3)
	discards(t, h, 0, 3, 1)
	fine(t, "Cut", h.Cut())
	logged(t, h, j, 4, 4, 3)
}

// The document's examples 1 to 4 and 9 of the whole, as far as they are two holders' doing.
func TestExamplesOfTheWhole(t *testing.T) {
	j := api.Job{Nodes: 3, Pages: 2, Frames: 2, Log: 4, Patience: 2}
	d := made(t, j)
	one, two := opened(t, d, j, 1, 1), opened(t, d, j, 2, 1)

	grants(t, one, 0, 1, api.Exclusive)
	v := writes(t, one, 0, 1)
	if l := durable(t, d, j); l[0] != (api.Version{}) {
		t.Error("a write that stands in memory alone is durable")
	}

	f := api.Frame{Page: 0, Mode: api.Shared, Op: 2, First: 1, V: v, Dirty: true}
	shares(t, one, 0, 2, f)
	if l := durable(t, d, j); l[0] != v {
		t.Error("what another node gets is not durable")
	}
	has(t, one, f)
	takes(t, two, 0, 2, api.Shared, f.V, false)
	reads(t, two, 0, v)

	yields(t, one, 0, 3, f)
	marked(t, one, api.Mark{Page: 0, PSN: 1, First: 1})
	takes(t, two, 0, 3, api.Exclusive, f.V, f.Dirty)
	w := writes(t, two, 0, 2)
	has(t, two, api.Frame{Page: 0, Mode: api.Exclusive, Op: 3, First: 1, V: w, Dirty: true})

	fine(t, "Cut", one.Cut())
	logged(t, one, j, 1, 2, 1)
	backs(t, two, 0, 2)
	stands(t, d, j, 0, w)
	discards(t, one, 0, 2, 1)
	fine(t, "Cut", one.Cut())
	logged(t, one, j, 2, 2, 1)

	grants(t, two, 1, 1, api.Shared)
	if _, e := two.Free(1); e != api.OK {
		t.Error(e)
	}
	if n, e := rebuild.Rebuild(d, j, 0, 1); n != 0 || e != api.OK {
		t.Error("something is missing", n, e)
	}
}
