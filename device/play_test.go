package device_test

import (
	"math/rand"
	"testing"

	"millpond/api"
	"millpond/device"
)

// asked is a call that may change a device, and what it is answered.
type asked struct {
	kind, node, at int
	epoch, above   int64
	was            byte
	l              []api.Sector
}

// answered is what such a call told; Up's number and Swap's bool stand in n.
type answered struct {
	n int64
	e api.Errno
}

// some is any such call at a device, a few of them wrong ones.
func some(r *rand.Rand, d *device.Device) asked {
	a := asked{kind: r.Intn(4), node: r.Intn(d.Nodes()+1) - r.Intn(2), at: r.Intn(d.Size()+2) - 1, was: byte('a' + r.Intn(2))}
	a.epoch, _ = d.Epoch(a.node)
	a.epoch += int64(r.Intn(2) * (r.Intn(3) - 1))
	a.above = a.epoch + int64(r.Intn(4)) - 2
	for range r.Intn(4) {
		a.l = append(a.l, full(byte('a'+r.Intn(2))))
	}
	return a
}

// ask lets a device do it.
func ask(d *device.Device, a asked) answered {
	switch a.kind {
	case 0:
		return answered{0, d.Write(a.node, a.epoch, a.at, a.l...)}
	case 1:
		ok, e := d.Swap(a.node, a.epoch, a.at, full(a.was), full('a'+'b'-a.was))
		if ok {
			return answered{1, e}
		}
		return answered{0, e}
	case 2:
		n, e := d.Up(a.node)
		return answered{n, e}
	}
	return answered{0, d.Fence(a.node, a.epoch, (a.node+1)%d.Nodes(), a.above)}
}

// model is a device by the chapter's words: sectors as bytes of a text, and no cut; each call tells the things that it does.
type model struct {
	sectors string
	epochs  []int64
}

// plays tells how a device with such a state answers, and the states that it goes through, thing by thing.
func (m model) plays(a asked) (answered, []model) {
	wrong := func(may bool) api.Errno {
		switch {
		case !may, a.node < 0, a.node >= len(m.epochs), a.epoch < 0, a.epoch > m.epochs[a.node]:
			return api.ErrArg
		case a.epoch < m.epochs[a.node]:
			return api.ErrFenced
		}
		return api.OK
	}
	raised := func(node int, epoch int64) []model {
		l := append([]int64(nil), m.epochs...)
		l[node] = epoch
		return []model{{m.sectors, l}}
	}
	put := func(s string, i int, c byte) string { return s[:i] + string(c) + s[i+1:] }
	switch a.kind {
	case 0:
		if e := wrong(a.at >= 0 && a.at+len(a.l) <= len(m.sectors)); e != api.OK {
			return answered{0, e}, nil
		}
		var through []model
		now := m.sectors
		for i, s := range a.l {
			now = put(now, a.at+i, s[0])
			through = append(through, model{now, m.epochs})
		}
		return answered{}, through
	case 1:
		if e := wrong(a.at >= 0 && a.at < len(m.sectors)); e != api.OK || m.sectors[a.at] != a.was {
			return answered{0, e}, nil
		}
		return answered{n: 1}, []model{{put(m.sectors, a.at, 'a'+'b'-a.was), m.epochs}}
	case 2:
		if a.node < 0 || a.node >= len(m.epochs) {
			return answered{0, api.ErrArg}, nil
		}
		if m.epochs[a.node] == api.MaxEpoch {
			return answered{0, api.ErrFull}, nil
		}
		n := m.epochs[a.node] + 1
		return answered{n: n}, raised(a.node, n)
	}
	who := (a.node + 1) % len(m.epochs)
	if e := wrong(a.above >= 0 && a.above < api.MaxEpoch); e != api.OK || m.epochs[who] > a.above {
		return answered{0, e}, nil
	}
	return answered{}, raised(who, a.above+1)
}

// P2.2, P2.3, P2.4, P2.6, P0.2, P0.5: whatever is asked, cut or not, a device is as the model says, after as many things as were let be done.
func TestAnyCallsAreAsTheModelSays(t *testing.T) {
	r := rand.New(rand.NewSource(2))
	for play := range 300 {
		m := model{"abab"[:1+r.Intn(4)], []int64{int64(r.Intn(3)), api.MaxEpoch - int64(r.Intn(3)), 1}[:1+r.Intn(3)]}
		d := of(t, m.sectors, m.epochs...)
		left, cut, lost, done := 0, false, false, int64(0)
		for step := range 60 {
			if r.Intn(8) == 0 {
				n := r.Intn(5)
				if e := d.Cut(n); (e == api.OK) == cut || (e == api.ErrBusy) != cut {
					t.Fatalf("%d.%d: Cut: %v", play, step, e)
				}
				if !cut {
					left, cut = n, true
				}
			}
			a := some(r, d)
			want, through := m.plays(a)
			if got := ask(d, a); got != want {
				t.Fatalf("%d.%d: %+v at %+v: %v, not %v", play, step, a, m, got, want)
			}
			if cut && len(through) > left {
				through, lost = through[:left], true
			}
			left -= len(through)
			done += int64(len(through))
			for _, next := range through {
				m = next
			}
			has(t, d, m.sectors, done, m.epochs...)
			if r.Intn(8) == 0 {
				if d.Whole() == lost {
					t.Fatalf("%d.%d: Whole is not %v", play, step, !lost)
				}
				cut, lost = false, false
			}
			if r.Intn(8) == 0 {
				elder := d
				d = d.Copy()
				elder.Whole()
				elder.Up(0)
			}
			if t.Failed() {
				t.Fatalf("%d.%d: behind %+v", play, step, a)
			}
		}
	}
}
