package holder

import (
	"millpond/api"
	"millpond/area"
	"millpond/page"
)

// Grant lets a page be held: as the frame has it, or as it stands on the device.
func (h *Holder) Grant(page int, op int64, mode api.Mode) api.Errno {
	if wrong := h.refusal(page, isOp(op), isMode(mode)); wrong != api.OK {
		return wrong
	}
	f, had, wrong := h.coming(page, op, mode)
	if wrong != api.OK {
		return wrong
	}
	if !had {
		if f.V, wrong = h.standing(page); wrong != api.OK {
			return wrong
		}
	}
	return h.own.Set(f)
}

// Take lets a page be held as another node sent it. What is dirty stays so, as the device does not have it by that.
func (h *Holder) Take(page int, op int64, mode api.Mode, v api.Version, dirty bool) api.Errno {
	if wrong := h.refusal(page, isOp(op), isMode(mode), isVersion(v)); wrong != api.OK {
		return wrong
	}
	f, _, wrong := h.coming(page, op, mode)
	if wrong != api.OK {
		return wrong
	}
	f.V, f.Dirty = v, f.Dirty || dirty
	return h.own.Set(f)
}

// coming is the frame that a page is to have by an op: what it had, if that was by a lower one, or a new one, if there is room.
func (h *Holder) coming(page int, op int64, mode api.Mode) (f api.Frame, had bool, wrong api.Errno) {
	f, had = h.own.Look(page)
	switch {
	case had && f.Op >= op:
		return api.Frame{}, had, api.ErrState
	case !had && h.own.Pool.Room() == 0:
		return api.Frame{}, had, api.ErrFull
	}
	f.Page, f.Op, f.Mode = page, op, mode
	return f, had, api.OK
}

// standing is the version that stands in a page's place.
func (h *Holder) standing(number int) (api.Version, api.Errno) {
	at, _ := area.Page(h.own.job, number)
	first, _ := h.own.device.Read(at)
	second, _ := h.own.device.Read(at + 1)
	return page.Get(number, first, second)
}
