package area

import (
	"iter"

	"millpond/api"
)

// Of is what lies in a sector.
func Of(j api.Job, sector int) (api.Place, api.Errno) {
	if !j.May() || sector < 0 {
		return api.Place{}, api.ErrArg
	}
	switch area, at := find(j, sector); area {
	case views:
		return api.Place{Kind: api.PlaceView}, api.OK
	case leases:
		return api.Place{Kind: api.PlaceLease, Node: at}, api.OK
	case logs:
		return inLog(at/logSize(j), at%logSize(j)), api.OK
	case pages:
		return api.Place{Kind: api.PlacePage, Index: at / halves, Half: at % halves}, api.OK
	}
	return api.Place{}, api.ErrArg
}

// All goes over all sectors, rising, each with what lies there.
func All(j api.Job) iter.Seq2[int, api.Place] {
	return func(yield func(int, api.Place) bool) {
		many, _ := Sectors(j) // none of a job that may not be
		for s := range many {
			if p, _ := Of(j, s); !yield(s, p) {
				return
			}
		}
	}
}

// find is the area in which a sector lies, and how far behind its start. What lies behind all areas is in none of them.
func find(j api.Job, sector int) (area, at int) {
	area, begin := areas, 0
search:
	for a, end := range ends(j) {
		if sector < end {
			area = a
			break search
		}
		begin = end
	}
	return area, sector - begin
}

// inLog is what lies so far behind the start of a node's log: its head, or a record's half.
func inLog(node, at int) api.Place {
	if at == 0 {
		return api.Place{Kind: api.PlaceHead, Node: node}
	}
	return api.Place{Kind: api.PlaceRecord, Node: node, Index: (at - 1) / halves, Half: (at - 1) % halves}
}
