package member

import (
	"millpond/api"
	"millpond/area"
	"millpond/device"
	"millpond/view"
)

// asker is who wants another view on the device: a node, with its epoch.
type asker struct {
	d     *device.Device
	j     api.Job
	node  int
	epoch int64
}

// turn is the view on the device behind a call, and whether that call brought it there.
type turn struct {
	now api.View
	did bool
}

// Join founds the next view, with a node.
func Join(d *device.Device, j api.Job, node int, epoch int64) (api.View, bool, api.Errno) {
	a := asker{d, j, node, epoch}
	return a.change(a.may(), func(was api.View) (api.View, api.Errno) {
		return view.Join(was, node, epoch)
	})
}

// Out founds the next view, without a node, which is fenced ahead of that.
func Out(d *device.Device, j api.Job, node int, epoch int64, who int) (api.View, bool, api.Errno) {
	a := asker{d, j, node, epoch}
	isOther := unless(api.ErrArg, func() bool { return who != node })
	return a.change(a.may(isNode(j, who), isOther), func(was api.View) (is api.View, wrong api.Errno) {
		wrong = told(
			unless(api.ErrNone, func() bool { return view.Is(was, node, epoch) }),
			func() (wrong api.Errno) {
				is, wrong = view.Out(was, node, who)
				return wrong
			},
			func() api.Errno { return d.Fence(node, epoch, who, was.Members[who].Epoch) },
		)
		return is, wrong
	})
}

// Open opens a view.
func Open(d *device.Device, j api.Job, node int, epoch int64) (api.View, bool, api.Errno) {
	a := asker{d, j, node, epoch}
	return a.change(a.may(), func(was api.View) (is api.View, wrong api.Errno) {
		wrong = told(
			unless(api.ErrThere, func() bool { return !was.Open }),
			unless(api.ErrNone, func() bool { return was.Founder == node && view.Is(was, node, epoch) }),
			unless(api.ErrState, func() bool { return All(d, j, was) }),
			func() (wrong api.Errno) {
				is, wrong = view.Opened(was)
				return wrong
			},
		)
		return is, wrong
	})
}

// may are the questions ahead of looking at the view. What else may not be of a call (more) is told ahead of a fence.
func (a asker) may(more ...question) []question {
	list := []question{isThere(a.d), fits(a.d, a.j), isNode(a.j, a.node), isEpoch(a.d, a.node, a.epoch)}
	return append(append(list, more...), isNotFenced(a.d, a.node, a.epoch))
}

// change has the view on the device swapped for what becomes of it; ErrThere of that says that it stays as it is.
func (a asker) change(list []question, becomes func(was api.View) (api.View, api.Errno)) (api.View, bool, api.Errno) {
	t, wrong := answer(list, func() turn {
		was := viewOn(a.d, a.j)
		is, wrong := becomes(was)
		if wrong == api.ErrThere {
			return turn{now: was}
		}
		orGiveUp(wrong)
		return a.swap(was, is)
	})
	return t.now, t.did, wrong
}

// swap is one Swap on the view's sector. If another node was there first, what it brought stands.
func (a asker) swap(was, is api.View) turn {
	at, _ := area.View(a.j)
	old, _ := view.Put(was)
	young, _ := view.Put(is)
	did, wrong := a.d.Swap(a.node, a.epoch, at, old, young)
	orGiveUp(wrong)
	if !did {
		return turn{now: viewOn(a.d, a.j)}
	}
	return turn{now: is, did: true}
}
