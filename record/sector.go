package record

import "millpond/api"

const (
	mark      = 177 // of a record's first sector; its second one's is one more
	nodeShare = 16  // a node and a page are told by one byte
	halfSize  = api.BodySize / 2
)

// How many bytes a field has.
const (
	small = 1
	great = 4
)

// Stamp is what a record's sector says, and which half it is, if it is one.
func Stamp(s api.Sector) (api.Record, int, bool) {
	for half := range 2 {
		r := read(s, half)
		if isRecord(r) && s == laid(r, half) { // laid anew, it has this half's mark, and its end is noughts
			r.Body = api.Body{}
			return r, half, true
		}
	}
	return api.Record{}, 0, false
}

// laid is the record's first or second sector.
func laid(r api.Record, half int) api.Sector {
	var s api.Sector
	put := putter(&s)
	put(small, int64(mark+half))
	put(small, int64(nodeShare*r.Node+r.Page))
	put(great, r.Epoch)
	put(great, r.LSN)
	put(great, r.PSN)
	for i := range halfSize {
		put(small, int64(r.Body[half*halfSize+i]))
	}
	return s
}

// read is what laid would have been given for this sector, with this half of the body alone.
func read(s api.Sector, half int) api.Record {
	var r api.Record
	take := taker(s)
	take(small) // the mark is held against it by who lays it anew
	who := int(take(small))
	r.Node, r.Page = who/nodeShare, who%nodeShare
	r.Epoch = take(great)
	r.LSN = take(great)
	r.PSN = take(great)
	for i := range halfSize {
		r.Body[half*halfSize+i] = byte(take(small))
	}
	return r
}

// putter puts numbers in a sector, one behind the other, each one's highest byte first.
func putter(s *api.Sector) func(size int, n int64) {
	at := 0
	return func(size int, n int64) {
		for size--; size >= 0; size-- {
			s[at] = byte(n >> (8 * size))
			at++
		}
	}
}

// taker takes a sector's numbers as putter puts them.
func taker(s api.Sector) func(size int) int64 {
	at := 0
	return func(size int) int64 {
		var n int64
		for range size {
			n = n<<8 | int64(s[at])
			at++
		}
		return n
	}
}
