package view

import "millpond/api"

// Where a sector has what.
const (
	markAt    = 0
	openAt    = 1
	founderAt = 2
	membersAt = 3
	numberAt  = 4
	epochsAt  = 12
	epochSize = 4
)

const mark = 193

// Put is a view's sector.
func Put(v api.View) (api.Sector, api.Errno) {
	var s api.Sector
	switch {
	case !May(v):
		return s, api.ErrArg
	case v == first: // noughts, so that a new device has it
		return s, api.OK
	}
	s[markAt] = mark
	if v.Open {
		s[openAt] = 1
	}
	s[founderAt] = byte(v.Founder)
	putNumber(s[numberAt:epochsAt], v.Number)
	for node, m := range v.Members {
		if m.In {
			s[membersAt] |= 1 << node
		}
		putNumber(epochOf(s[:], node), m.Epoch)
	}
	return s, api.OK
}

// Get is the view whose sector this is.
func Get(s api.Sector) (api.View, api.Errno) {
	v := viewIn(s)
	if t, wrong := Put(v); wrong != api.OK || s != t {
		return api.View{}, api.ErrCorrupt
	}
	return v, api.OK
}

// viewIn is the one view that can have this sector, if any has. What it leaves unread is held against what Put makes of it.
func viewIn(s api.Sector) api.View {
	if s == (api.Sector{}) {
		return first
	}
	v := api.View{Number: number(s[numberAt:epochsAt]), Open: s[openAt] == 1, Founder: int(s[founderAt])}
	for node := range v.Members {
		v.Members[node] = api.Member{In: s[membersAt]>>node&1 == 1, Epoch: number(epochOf(s[:], node))}
	}
	return v
}

// epochOf is the bytes of a sector that have the node's epoch.
func epochOf(s []byte, node int) []byte {
	at := epochsAt + epochSize*node
	return s[at : at+epochSize]
}

// putNumber fills the bytes with a number, the highest first.
func putNumber(b []byte, n int64) {
	for at := len(b) - 1; at >= 0; at-- {
		b[at] = byte(n)
		n >>= 8
	}
}

// number is what the bytes say; of eight it may be below 0, which no view's is.
func number(b []byte) int64 {
	var n int64
	for _, c := range b {
		n = n<<8 | int64(c)
	}
	return n
}
