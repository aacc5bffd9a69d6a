package rebuild

import (
	"millpond/api"
	"millpond/area"
	"millpond/device"
	"millpond/record"
)

// visit is handed records, one by one.
type visit func(r api.Record)

// Records are a node's log's.
func Records(d *device.Device, j api.Job, node int) ([]api.Record, api.Errno) {
	if wrong := refusal(d, j, isNode(j, node)); wrong != api.OK {
		return nil, wrong
	}
	var l []api.Record
	wrong := overLog(d, j, node, func(r api.Record) { l = append(l, r) })
	return l, wrong
}

// overLogs hands on the records of all logs, nodes rising, LSNs rising, up to a log whose head is none.
func overLogs(d *device.Device, j api.Job, each visit) api.Errno {
	for node := range j.Nodes {
		if wrong := overLog(d, j, node, each); wrong != api.OK {
			return wrong
		}
	}
	return api.OK
}

// overLog hands on the records of a node's log; none of a log whose head is none.
func overLog(d *device.Device, j api.Job, node int, each visit) api.Errno {
	at, _ := area.Head(j, node)
	s, _ := d.Read(at)
	head, wrong := record.TakeHead(s)
	if wrong != api.OK {
		return wrong
	}
	ahead := api.Record{Node: node, LSN: head.Start - 1} // of no epoch: the first record's is held against none
log:
	for lsn := head.Start; lsn < head.Start+int64(j.Log); lsn++ {
		r, whole := recordAt(d, j, node, lsn)
		if !whole || !record.Follows(ahead, r) {
			break log
		}
		each(r)
		ahead = r
	}
	return api.OK
}

// recordAt is what stands at an LSN's place, whosever it is, and whether it is whole. Behind MaxStamp there is no place.
func recordAt(d *device.Device, j api.Job, node int, lsn int64) (api.Record, bool) {
	at, wrong := area.Record(j, node, lsn)
	if wrong != api.OK {
		return api.Record{}, false
	}
	a, b := halves(d, at)
	r, wrong := record.Get(a, b)
	return r, wrong == api.OK
}

// halves are the two sectors of a record or a page.
func halves(d *device.Device, at int) (api.Sector, api.Sector) {
	first, _ := d.Read(at)
	second, _ := d.Read(at + 1)
	return first, second
}
