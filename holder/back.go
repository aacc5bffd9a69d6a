package holder

import (
	"millpond/api"
	"millpond/area"
	"millpond/page"
)

// Back writes a page back, if it is dirty: which version the device has by then.
func (h *Holder) Back(page int) (int64, api.Errno) {
	if wrong := h.refusal(page); wrong != api.OK {
		return 0, wrong
	}
	f, is := h.own.Look(page)
	if !is {
		return 0, api.ErrNone
	}
	return unlessGivenUp(func() int64 {
		h.back(f)
		return f.V.PSN
	})
}

// Clean writes all back that is dirty: what that was, by rising pages.
func (h *Holder) Clean() ([]api.Left, api.Errno) {
	if h.none() {
		return nil, api.ErrNil
	}
	return unlessGivenUp(func() (l []api.Left) {
		for f := range h.Frames() {
			if f.Dirty {
				l = append(l, h.back(f))
			}
		}
		return l
	})
}

// Freeze writes all back that is dirty, and forgets frames and marks.
func (h *Holder) Freeze() api.Errno {
	if _, wrong := h.Clean(); wrong != api.OK {
		return wrong
	}
	h.own.Pool.Clear()
	h.own.Past.Clear()
	return api.OK
}

// back writes a frame back, if it is dirty, its record ahead of it. If the device refuses, it gives up, for unlessGivenUp to tell.
func (h *Holder) back(f api.Frame) api.Left {
	left := api.Left{Page: f.Page, Op: f.Op}
	if !f.Dirty {
		return left
	}
	if h.own.Flush() != api.OK || h.lay(f.Page, f.V) != api.OK {
		panic(api.ErrFenced)
	}
	left.PSN = f.V.PSN
	f.Dirty, f.First = false, 0
	h.own.Set(f)
	return left
}

// lay writes a version into its page's place.
func (h *Holder) lay(number int, v api.Version) api.Errno {
	at, _ := area.Page(h.own.job, number)
	halves, _ := page.Put(number, v) // a frame has just what may be
	return h.own.device.Write(h.own.node, h.own.epoch, at, halves[:]...)
}

// unlessGivenUp is what do answers, or nothing, and why, if a write-back in it gave up.
func unlessGivenUp[T any](do func() T) (what T, wrong api.Errno) {
	defer func() {
		if given := recover(); given != nil {
			wrong = given.(api.Errno) // nothing else is given up, and a fault of the program is not to hide here
		}
	}()
	return do(), api.OK
}
