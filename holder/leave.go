package holder

import "millpond/api"

// Free makes a place free, if a page has none, and none is: what went for that.
func (h *Holder) Free(page int) ([]api.Left, api.Errno) {
	if wrong := h.refusal(page); wrong != api.OK {
		return nil, wrong
	}
	if _, is := h.own.Look(page); is || h.own.Pool.Room() > 0 {
		return nil, api.OK
	}
	victim, _ := h.own.Victim() // nothing is pinned here, so there is one
	f, _ := h.own.Look(victim)
	return unlessGivenUp(func() []api.Left {
		left := h.back(f)
		h.own.Drop(victim)
		left.Gone = true
		return []api.Left{left}
	})
}

// Share lets a page be held shared from an op on: its frame, for another node.
func (h *Holder) Share(page int, op int64) (api.Frame, api.Errno) {
	f, wrong := h.leaving(page, op)
	if wrong != api.OK {
		return api.Frame{}, wrong
	}
	f.Op, f.Mode = op, api.Shared
	h.own.Set(f)
	return f, api.OK
}

// Yield gives a page up to another node: its frame, as it was. If that is dirty by records of this log, a mark keeps them.
func (h *Holder) Yield(page int, op int64) (api.Frame, api.Errno) {
	f, wrong := h.leaving(page, op)
	if wrong != api.OK {
		return api.Frame{}, wrong
	}
	// No mark that is needed is refused: each has a First of its own in the log, which has fewer records than there may be marks. For the version 0, of which there is none, the log keeps nothing.
	if f.Dirty && f.First != 0 {
		h.own.Mark(page, f.V.PSN, f.First)
	}
	return h.own.Drop(page)
}

// Drop lets a page go that is not dirty; nothing, if it is not held by a lower op.
func (h *Holder) Drop(page int, op int64) (bool, api.Errno) {
	if wrong := h.refusal(page, isOp(op)); wrong != api.OK {
		return false, wrong
	}
	f, is := h.below(page, op)
	switch {
	case !is:
		return false, api.OK
	case f.Dirty:
		return false, api.ErrState
	}
	h.own.Drop(page)
	return true, api.OK
}

// leaving is the frame of a page that another node is to get, and that is held by a lower op than this. The log is flushed ahead of that: what leaves the pool has its record on the device.
func (h *Holder) leaving(page int, op int64) (api.Frame, api.Errno) {
	if wrong := h.refusal(page, isOp(op)); wrong != api.OK {
		return api.Frame{}, wrong
	}
	f, is := h.below(page, op)
	if !is {
		return api.Frame{}, api.ErrNone
	}
	if wrong := h.own.Flush(); wrong != api.OK {
		return api.Frame{}, wrong
	}
	return f, api.OK
}

// below is a page's frame, and whether the page is held by a lower op than this.
func (h *Holder) below(page int, op int64) (api.Frame, bool) {
	f, is := h.own.Look(page)
	return f, is && f.Op < op
}
