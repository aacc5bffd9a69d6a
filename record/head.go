package record

import "millpond/api"

const headMark = 179

// first is the head of a log that nobody has cut yet: noughts, so that a new device has it.
var first = api.Head{Start: 1}

// PutHead is a head's sector.
func PutHead(h api.Head) (api.Sector, api.Errno) {
	var s api.Sector
	switch {
	case h == first:
		return s, api.OK
	case !isEpoch(h.Epoch) || !isStamp(h.Start):
		return s, api.ErrArg
	}
	put := putter(&s)
	put(small, headMark)
	put(great, h.Epoch)
	put(great, h.Start)
	return s, api.OK
}

// TakeHead is the head whose sector this is.
func TakeHead(s api.Sector) (api.Head, api.Errno) {
	h := headIn(s)
	if t, wrong := PutHead(h); wrong != api.OK || s != t {
		return api.Head{}, api.ErrCorrupt
	}
	return h, api.OK
}

// headIn is the one head that can have this sector, if any has.
func headIn(s api.Sector) api.Head {
	if s == (api.Sector{}) {
		return first
	}
	take := taker(s)
	take(small) // the mark is held against it by who puts the head anew
	epoch := take(great)
	return api.Head{Start: take(great), Epoch: epoch}
}
