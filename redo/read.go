package redo

import (
	"iter"

	"millpond/api"
	"millpond/area"
	"millpond/device"
	"millpond/record"
)

// Read is what the device says of a node's log: its Start, and the records.
func Read(d *device.Device, j api.Job, node int) (int64, []api.Record, api.Errno) {
	return look(d, j, node, true)
}

// look is what the device says; may says whether the rest of what is asked may be, as that counts ahead of a head that is none.
func look(d *device.Device, j api.Job, node int, may bool) (int64, []api.Record, api.Errno) {
	many, _ := area.Sectors(j)
	at, wrong := area.Head(j, node)
	switch {
	case d.Size() == 0: // a nil one, or a zero one
		return 0, nil, api.ErrNil
	case wrong != api.OK || !may || d.Size() < many:
		return 0, nil, api.ErrArg
	}
	s, _ := d.Read(at)
	head, wrong := record.TakeHead(s)
	if wrong != api.OK {
		return 0, nil, wrong
	}
	return head.Start, standing(d, j, node, head), api.OK
}

// standing are the records that count, from the head on.
func standing(d *device.Device, j api.Job, node int, head api.Head) []api.Record {
	var l []api.Record
	ahead := api.Record{Node: node, Epoch: head.Epoch, LSN: head.Start - 1} // the first one follows the head as others follow records
scan:
	for r := range laid(d, j, node, head.Start) {
		if r.Page >= j.Pages || !record.Follows(ahead, r) {
			break scan
		}
		l = append(l, r)
		ahead = r
	}
	return l
}

// laid goes over what stands at the places of the numbers from start on, whosever it is, up to the first place where nothing is whole. The number MaxStamp has no place in a log, as Next is at most that.
func laid(d *device.Device, j api.Job, node int, start int64) iter.Seq[api.Record] {
	return func(yield func(api.Record) bool) {
		place := places(j, node)
		for lsn := start; lsn < min(start+int64(j.Log), api.MaxStamp); lsn++ {
			a, _ := d.Read(place(lsn))
			b, _ := d.Read(place(lsn) + 1)
			r, wrong := record.Get(a, b)
			if wrong != api.OK || !yield(r) {
				return
			}
		}
	}
}

// places tells the first sector of each record of a log that may be.
func places(j api.Job, node int) func(lsn int64) int {
	return func(lsn int64) int {
		first, _ := area.Record(j, node, lsn)
		return first
	}
}
