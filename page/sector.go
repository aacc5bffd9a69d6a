package page

import "millpond/api"

// Where a sector has what.
const (
	markAt = 0
	pageAt = 1
	psnAt  = 2
	bodyAt = 6
)

const (
	mark     = 161 // of a first sector; a second one's is one more
	halfSize = api.BodySize / 2
)

// half is a body's first or second bytes.
type half [halfSize]byte

// Stamp is what a page's sector says, and whether it is one.
func Stamp(s api.Sector) (api.Stamp, bool) {
	t := api.Stamp{Page: int(s[pageAt]), Half: int(s[markAt]) - mark, PSN: psn(s)}
	if !isStamp(t) || s != laid(t, halfOf(s)) { // laid anew, its end is noughts
		return api.Stamp{}, false
	}
	return t, true
}

// laid is the sector that says this stamp, with its half of the body.
func laid(t api.Stamp, h half) api.Sector {
	var s api.Sector
	s[markAt] = byte(mark + t.Half)
	s[pageAt] = byte(t.Page)
	for at := bodyAt - 1; at >= psnAt; at-- {
		s[at] = byte(t.PSN)
		t.PSN >>= 8
	}
	copy(s[bodyAt:], h[:])
	return s
}

func psn(s api.Sector) int64 {
	var n int64
	for _, c := range s[psnAt:bodyAt] {
		n = n<<8 | int64(c)
	}
	return n
}

func halfOf(s api.Sector) half {
	var h half
	copy(h[:], s[bodyAt:])
	return h
}

func isStamp(t api.Stamp) bool {
	return isPage(t.Page) && (t.Half == 0 || t.Half == 1) && isWritten(t.PSN)
}
