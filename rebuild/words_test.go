package rebuild_test

import (
	"bytes"
	"cmp"
	"encoding/binary"
	"math/rand"
	"slices"
	"testing"

	"millpond/api"
	"millpond/area"
	"millpond/device"
	"millpond/rebuild"
)

// words is what a device's bytes say, by the words of the chapters 3, 4, 5 and 12.
type words struct {
	b []byte
	j api.Job
}

func (w words) sector(i int) []byte { return w.b[i*64 : i*64+64] }

func number(s []byte, i int) (int64, bool) {
	n := int64(binary.BigEndian.Uint32(s[i:]))
	return n, n >= 1 && n <= 1<<31-1
}

func noughts(s []byte) bool { return bytes.Equal(s, make([]byte, len(s))) }

// start is what a node's head says.
func (w words) start(node int) (int64, bool) {
	s := w.sector(9 + node*(1+2*w.j.Log))
	if noughts(s) {
		return 1, true
	}
	_, epoch := number(s, 1)
	start, ok := number(s, 5)
	return start, ok && epoch && s[0] == 179 && noughts(s[9:])
}

// record is what stands at the place of an LSN.
func (w words) record(node int, lsn int64) (api.Record, bool) {
	at := 9 + node*(1+2*w.j.Log) + 1 + 2*int((lsn-1)%int64(w.j.Log))
	x, y := w.sector(at), w.sector(at+1)
	epoch, ok1 := number(x, 2)
	n, ok2 := number(x, 6)
	psn, ok3 := number(x, 10)
	r := api.Record{Node: int(x[1] >> 4), Page: int(x[1] & 15), Epoch: epoch, LSN: n, PSN: psn}
	copy(r.Body[:48], x[14:62])
	copy(r.Body[48:], y[14:62])
	return r, ok1 && ok2 && ok3 && r.Node < 8 && x[0] == 177 && y[0] == 178 && bytes.Equal(x[1:14], y[1:14]) && noughts(x[62:]) && noughts(y[62:])
}

func (w words) records(node int) ([]api.Record, bool) {
	start, ok := w.start(node)
	if !ok {
		return nil, false
	}
	var l []api.Record
	for i := range int64(w.j.Log) {
		r, ok := w.record(node, start+i)
		if !ok || r.Node != node || r.LSN != start+i || i > 0 && r.Epoch < l[i-1].Epoch {
			break
		}
		l = append(l, r)
	}
	return l, true
}

func (w words) place(page int) (api.Version, bool) {
	at := 9 + w.j.Nodes*(1+2*w.j.Log) + 2*page
	x, y := w.sector(at), w.sector(at+1)
	if noughts(x) && noughts(y) {
		return api.Version{}, true
	}
	psn, ok := number(x, 2)
	v := api.Version{PSN: psn}
	copy(v.Body[:48], x[6:54])
	copy(v.Body[48:], y[6:54])
	if !ok || x[0] != 161 || y[0] != 162 || int(x[1]) != page || !bytes.Equal(x[1:6], y[1:6]) || !noughts(x[54:]) || !noughts(y[54:]) {
		return api.Version{}, false
	}
	return v, true
}

// best is, of each page, the first one of all that stands, put in order; false, if a head is none.
func (w words) best() ([]api.Found, bool) {
	var l []api.Found
	for p := range w.j.Pages {
		stands := []api.Found{nought(p)}
		if v, whole := w.place(p); whole {
			stands = append(stands, in(p, v))
		}
		for node := range w.j.Nodes {
			all, ok := w.records(node)
			if !ok {
				return nil, false
			}
			for _, r := range all {
				if r.Page == p {
					stands = append(stands, logged(r))
				}
			}
		}
		slices.SortFunc(stands, func(a, b api.Found) int {
			place := func(f api.Found) int { return map[bool]int{true: 0, false: 1}[f.In] }
			return cmp.Or(cmp.Compare(b.V.PSN, a.V.PSN), cmp.Compare(place(a), place(b)), cmp.Compare(a.Node, b.Node), cmp.Compare(a.LSN, b.LSN))
		})
		l = append(l, stands[0])
	}
	return l, true
}

// asWords fails unless all calls tell what the words say, and Rebuild writes that; false, if a head is none.
func asWords(t *testing.T, d *device.Device, j api.Job) ([]api.Found, bool) {
	t.Helper()
	w, was := words{d.Bytes(), j}, d.Copy()
	for node := range j.Nodes {
		if l, ok := w.records(node); ok {
			records(t, d, j, node, l...)
		} else if l, e := rebuild.Records(d, j, node); len(l) != 0 || e != api.ErrCorrupt {
			t.Fatalf("Records(%+v, %d): %+v, %v", j, node, l, e)
		}
	}
	for p := range j.Pages {
		v, whole := w.place(p)
		place(t, d, j, p, v, whole)
	}
	epoch, _ := d.Epoch(1)
	want, ok := w.best()
	if !ok {
		tell(t, lookAtLogs, api.ErrCorrupt, d, j, asked{node: 1, epoch: epoch})
		silent(t, d, j)
		return nil, false
	}
	best(t, d, j, want...)
	untouched(t, "looks", d, was)
	c, lost := d.Copy(), missingOf(want)
	rebuilt(t, c, j, 1, epoch, len(lost))
	if !device.Same(c, laid(t, d, j, lost, 2*len(lost))) || c.Done() != d.Done()+2*int64(len(lost)) {
		t.Fatalf("Rebuild(%+v) wrote something else than %+v", j, lost)
	}
	follows(t, c, j, 1, epoch, versionsOf(want))
	return want, true
}

// twist changes a sector that lies there a little.
func twist(t *testing.T, r *rand.Rand, d *device.Device, i int) {
	s, _ := d.Read(i)
	switch r.Intn(4) {
	case 0:
		s = api.Sector{}
	case 1:
		s, _ = d.Read(r.Intn(d.Size()))
	default:
		s[r.Intn(64)] = byte(r.Intn(256))
	}
	lay(t, d, i, s)
}

// jumbleLog puts at the places of a node's log something like a head and records, a few of them wrong.
func jumbleLog(t *testing.T, r *rand.Rand, d *device.Device, j api.Job, node int) {
	start := []int64{1, 1 + r.Int63n(9), 1 + r.Int63n(9), api.MaxStamp - r.Int63n(9)}[r.Intn(4)]
	if start > 1 || r.Intn(2) == 0 {
		layHead(t, d, j, node, start, 1+r.Int63n(3))
	}
	if r.Intn(30) == 0 {
		twist(t, r, d, headAt(t, j, node))
	}
	epoch := 1 + r.Int63n(2)
	for lsn := start; lsn < start+int64(j.Log) && lsn <= api.MaxStamp; lsn++ {
		x := recordOf(node, epoch, lsn, r.Intn(j.Pages), 1+r.Int63n(5))
		switch r.Intn(24) {
		case 0:
			x.Node = r.Intn(api.MaxNodes)
		case 1:
			x.LSN = max(1, x.LSN-int64(j.Log))
		case 2:
			x.LSN = min(api.MaxStamp, x.LSN+r.Int63n(3))
		case 3, 4:
			x.Page = r.Intn(api.MaxPages)
		case 5:
			x.Epoch = max(1, x.Epoch-r.Int63n(2))
		case 6, 7:
			epoch++
		}
		layAs(t, d, j, node, lsn, x)
		if r.Intn(24) == 0 {
			twist(t, r, d, recordAt(t, j, node, lsn)+r.Intn(2))
		}
	}
}

// jumblePage puts at a page's place a version, or something like one.
func jumblePage(t *testing.T, r *rand.Rand, d *device.Device, j api.Job, p int) {
	switch n := r.Intn(10); {
	case n < 5:
		layPage(t, d, j, p, version(1+r.Int63n(5), byte(r.Intn(256))))
	case n < 7:
		l := sectorsOf(t, r.Intn(j.Pages), version(1+r.Int63n(5), 'j'))
		lay(t, d, pageAt(t, j, p), l[:]...)
	}
	if r.Intn(4) == 0 {
		twist(t, r, d, pageAt(t, j, p)+r.Intn(2))
	}
}

// P12.1 to P12.4, P0.5, P0.9: whatever lies at the places of heads, records and pages, it is read for what the words say, or refused; and Rebuild lays what they say.
func TestAnyBytes(t *testing.T) {
	r := rand.New(rand.NewSource(12))
	corrupt, kinds := 0, map[api.Found]int{} // what best ones were like: of version 0 or not, in their place or not
	for range 4000 {
		j := of(2+r.Intn(3), 1+r.Intn(4), 2+r.Intn(5))
		d := made(t, j, 1, 2)
		for node := range j.Nodes {
			jumbleLog(t, r, d, j, node)
		}
		for p := range j.Pages {
			jumblePage(t, r, d, j, p)
		}
		l, ok := asWords(t, d, j)
		if !ok {
			corrupt++
		}
		for _, f := range l {
			kinds[api.Found{In: f.In, V: api.Version{PSN: min(f.V.PSN, 1)}}]++
		}
	}
	if corrupt < 50 || len(kinds) != 4 {
		t.Errorf("too few kinds of them: %d, %v", corrupt, kinds)
	}
	for range 300 {
		j := of(2, 1+r.Intn(3), 2+r.Intn(5))
		many, _ := area.Sectors(j)
		b := make([]byte, many*api.SectorSize)
		r.Read(b)
		d, _ := device.Of(b, 1, 1)
		asWords(t, d, j)
		lay(t, d, headAt(t, j, 0), api.Sector{})
		lay(t, d, headAt(t, j, 1), api.Sector{})
		asWords(t, d, j)
	}
}

// P0.5, P0.9: of a record each byte of both sectors counts: another one there makes it another record, or none. So of a page's place.
func TestEachByte(t *testing.T) {
	j := of(2, 2, 2)
	for half := range 2 {
		for i := range api.SectorSize {
			for _, c := range []byte{1, 2, 0x80, 0xff} {
				d := made(t, j, 1, 1)
				layRecord(t, d, j, recordOf(1, 2, 1, 1, 3))
				layPage(t, d, j, 0, version(7, 'p'))
				for k, first := range []int{recordAt(t, j, 1, 1), pageAt(t, j, 0)} {
					s, _ := d.Read(first + half)
					s[i] ^= c
					lay(t, d, first+half, s)
					body := [][2]int{{14, 62}, {6, 54}}[k]
					if l, _ := asWords(t, d, j); i >= body[0] && i < body[1] && l[1-k].V.PSN == 0 {
						t.Errorf("the byte %d of the half %d is the body's, and spoils it", i, half)
					}
				}
			}
		}
	}
}
