package redo_test

import (
	"bytes"
	"encoding/binary"
	"math/rand"
	"slices"
	"testing"

	"millpond/api"
	"millpond/area"
	"millpond/device"
	"millpond/redo"
)

// byWords is what a device's bytes say of a node's log, by the words of the chapters 4, 5 and 6.
func byWords(d *device.Device, j api.Job, node int) (int64, []api.Record, api.Errno) {
	b := d.Bytes()
	sector := func(i int) []byte { return b[i*64 : i*64+64] }
	four := func(s []byte, i int) int64 { return int64(binary.BigEndian.Uint32(s[i:])) }
	number := func(n int64) bool { return n >= 1 && n <= 1<<31-1 }
	head := 9 + node*(1+2*j.Log)
	start, least := int64(1), int64(1)
	if s := sector(head); !bytes.Equal(s, make([]byte, 64)) {
		start, least = four(s, 5), four(s, 1)
		if s[0] != 179 || !number(start) || !number(least) || !bytes.Equal(s[9:], make([]byte, 55)) {
			return 0, nil, api.ErrCorrupt
		}
	}
	var l []api.Record
	for lsn := start; lsn < start+int64(j.Log) && lsn < 1<<31-1; lsn++ {
		at := head + 1 + 2*int((lsn-1)%int64(j.Log))
		x, y := sector(at), sector(at+1)
		if x[0] != 177 || y[0] != 178 || !bytes.Equal(x[1:14], y[1:14]) || x[62]|x[63]|y[62]|y[63] != 0 {
			break
		}
		r := api.Record{Node: int(x[1] >> 4), Page: int(x[1] & 15), Epoch: four(x, 2), LSN: four(x, 6), PSN: four(x, 10)}
		copy(r.Body[:48], x[14:62])
		copy(r.Body[48:], y[14:62])
		if r.Node != node || r.LSN != lsn || r.Page >= j.Pages || !number(r.PSN) || !number(r.Epoch) || r.Epoch < least {
			break
		}
		l, least = append(l, r), r.Epoch
	}
	return start, l, api.OK
}

// asWords fails unless Read and Open tell what the words say.
func asWords(t *testing.T, d *device.Device, j api.Job, node int) (api.Errno, int) {
	t.Helper()
	was := d.Copy()
	start, want, e := byWords(d, j, node)
	if e != api.OK {
		shut(t, "by the words", d, j, node, e)
	} else {
		reads(t, d, j, node, start, want...)
	}
	untouched(t, "Read, Open", d, was)
	return e, len(want)
}

// P6.1: a new device has empty logs, of all nodes.
func TestNewDevice(t *testing.T) {
	j := of(3, 2, 5)
	d := made(t, j, 0, 0, 0)
	for node := range 3 {
		reads(t, d, j, node, 1)
	}
}

// P6.1: each byte of a head counts: another one there makes it another head, or none. A node's own one alone counts.
func TestHeadsThatAreNone(t *testing.T) {
	j := of(2, 1, 2)
	at, _ := area.Head(j, 0)
	for i := range api.SectorSize {
		d := made(t, j, 1, 1)
		layHead(t, d, j, 0, 3, 1)
		reads(t, d, j, 0, 3)
		s, _ := d.Read(at)
		s[i] ^= 0x80
		lay(t, d, at, s)
		number := i > 0 && i < 9 && i != 1 && i != 5 // the highest bit of the others is no sign
		if e, _ := asWords(t, d, j, 0); (e == api.OK) != number {
			t.Errorf("the byte %d: %v", i, e)
		}
		reads(t, d, j, 1, 1)
	}
	for _, s := range []api.Sector{{179}, {0, 0, 0, 0, 0, 0, 0, 0, 1}, {179, 0, 0, 0, 0, 0, 0, 0, 1}, {179, 0, 0, 0, 1}, {177}, {180, 0, 0, 0, 1, 0, 0, 0, 1}} {
		d := made(t, j, 1, 1)
		lay(t, d, at, s)
		shut(t, "no head", d, j, 0, api.ErrCorrupt)
	}
}

// P6.1: where a log begins, anywhere and in any epoch; of each place that has what goes on.
func TestReadFromAnyStart(t *testing.T) {
	for _, j := range []api.Job{of(2, 3, 2), of(2, 3, 5), of(3, 16, api.MaxLog)} {
		for _, start := range []int64{1, 2, 3, 5, 6, 63, 64, 65, 1000000007, api.MaxStamp - api.MaxLog - 1} {
			for many := range j.Log + 1 {
				d := made(t, j, 1, 1)
				layHead(t, d, j, 1, start, 7)
				var want []api.Record
				for i := range many {
					r := recordOf(1, 7+int64(i/2), start+int64(i), i%3, 5+int64(i))
					layRecord(t, d, j, 1, r.LSN, r)
					want = append(want, r)
				}
				reads(t, d, j, 1, start, want...)
				reads(t, d, j, 0, 1)
			}
		}
	}
}

// P6.1, P6.5: a record that does not go on ends the log, though those behind it stand; wherever it is.
func TestReadEndsWithTheFirstThatDoesNotGoOn(t *testing.T) {
	j := of(2, 3, 5)
	good := func(i int) api.Record { return recordOf(1, 4, 7+int64(i), i%3, 9) }
	for name, spoil := range map[string]func(r *api.Record){
		"of another node":      func(r *api.Record) { r.Node = 0 },
		"of a node of no job":  func(r *api.Record) { r.Node = 7 },
		"of the round ahead":   func(r *api.Record) { r.LSN -= 5 },
		"of the round to come": func(r *api.Record) { r.LSN += 5 },
		"of one number more":   func(r *api.Record) { r.LSN++ },
		"of one number less":   func(r *api.Record) { r.LSN-- },
		"of a page of no job":  func(r *api.Record) { r.Page = 15 },
		"of one page too many": func(r *api.Record) { r.Page = 3 },
		"of a lower epoch":     func(r *api.Record) { r.Epoch = 3 },
		"of the epoch 1":       func(r *api.Record) { r.Epoch = 1 },
		"of the greatest LSN":  func(r *api.Record) { r.LSN = api.MaxStamp },
		"torn":                 nil,
	} {
		for bad := range 5 {
			d := made(t, j, 1, 1)
			layHead(t, d, j, 1, 7, 4)
			var want []api.Record
			for i := range 5 {
				r := good(i)
				if i < bad {
					want = append(want, r)
				}
				if i == bad && spoil != nil {
					spoil(&r)
				}
				layRecord(t, d, j, 1, 7+int64(i), r)
				if i == bad && spoil == nil {
					at, _ := area.Record(j, 1, r.LSN)
					lay(t, d, at+1, api.Sector{})
				}
			}
			reads(t, d, j, 1, 7, want...)
			if e, n := asWords(t, d, j, 1); e != api.OK || n != bad {
				t.Errorf("%s at %d: %v, %d", name, bad, e, n)
			}
		}
	}
}

// P6.1: epochs may rise from record to record, and not fall, beginning with the head's.
func TestReadEpochs(t *testing.T) {
	j := of(2, 1, 4)
	for _, x := range []struct {
		head   int64
		epochs []int64
		want   int
	}{
		{0, []int64{1, 1, 1, 1}, 4}, {0, []int64{1, 2, 9, api.MaxEpoch}, 4}, {0, []int64{2, 1, 2, 2}, 1}, {0, []int64{1, 3, 3, 2}, 3},
		{1, []int64{1, 1, 1, 1}, 4}, {2, []int64{1, 2, 2, 2}, 0}, {2, []int64{2, 2, 1, 2}, 2}, {2, []int64{3, 2, 3, 3}, 1}, {2, []int64{3, 3, 4, 4}, 4},
		{api.MaxEpoch, []int64{api.MaxEpoch, api.MaxEpoch, api.MaxEpoch - 1, 1}, 2}, {api.MaxEpoch, []int64{api.MaxEpoch - 1, api.MaxEpoch, 1, 1}, 0},
	} {
		d := made(t, j, 1, 1)
		if x.head > 0 {
			layHead(t, d, j, 0, 1, x.head)
		}
		var want []api.Record
		for i, epoch := range x.epochs {
			r := recordOf(0, epoch, int64(i)+1, 0, 1)
			layRecord(t, d, j, 0, r.LSN, r)
			want = append(want, r)
		}
		reads(t, d, j, 0, 1, want[:x.want]...)
	}
}

// P6.1: a log's number is not the greatest one, as Next would be beyond it.
func TestReadUpToTheGreatestNumber(t *testing.T) {
	for _, j := range []api.Job{of(2, 1, 2), of(2, 1, 4)} {
		for back := range int64(6) {
			d := made(t, j, 1, 1)
			start := api.MaxStamp - back
			layHead(t, d, j, 0, start, 1)
			var want []api.Record
			for lsn := start; lsn <= api.MaxStamp; lsn++ {
				if lsn >= start+int64(j.Log) {
					break
				}
				r := recordOf(0, 1, lsn, 0, api.MaxStamp)
				layRecord(t, d, j, 0, lsn, r)
				if lsn < api.MaxStamp {
					want = append(want, r)
				}
			}
			reads(t, d, j, 0, start, want...)
		}
	}
}

// P0.5, P0.9: of a record each byte of both sectors counts: another one there makes it another record, or none.
func TestEachByteOfARecord(t *testing.T) {
	j := of(2, 2, 2)
	r := recordOf(1, 2, 1, 1, 3)
	for half := range 2 {
		for i := range api.SectorSize {
			for _, c := range []byte{1, 0x80, 0xff} {
				d := made(t, j, 1, 1)
				layRecord(t, d, j, 1, 1, r)
				at, _ := area.Record(j, 1, 1)
				s, _ := d.Read(at + half)
				s[i] ^= c
				lay(t, d, at+half, s)
				if _, n := asWords(t, d, j, 1); n == 1 && (i < 14 || i >= 62) {
					t.Errorf("the byte %d of the half %d is none of the body's, and does not count", i, half)
				}
			}
		}
	}
}

// jumble puts at the places of a node's log something like a log's head and records, a few of them wrong.
func jumble(t *testing.T, r *rand.Rand, d *device.Device, j api.Job, node int) {
	start := []int64{1, 1 + r.Int63n(9), 1 + r.Int63n(9), api.MaxStamp - r.Int63n(9)}[r.Intn(4)]
	head := r.Int63n(4)
	at, _ := area.Head(j, node)
	switch {
	case r.Intn(12) == 0:
		var s api.Sector
		s[r.Intn(12)], s[r.Intn(64)] = 179, byte(r.Intn(3))
		lay(t, d, at, s)
	case head > 0:
		layHead(t, d, j, node, start, head)
	default:
		start = 1
	}
	epoch := max(head, 1)
	for lsn := start; lsn < start+int64(j.Log) && lsn <= api.MaxStamp; lsn++ {
		x := recordOf(node, epoch, lsn, r.Intn(j.Pages), 1+r.Int63n(5))
		switch r.Intn(24) {
		case 0:
			x.Node = r.Intn(api.MaxNodes)
		case 1:
			x.LSN = max(1, x.LSN-int64(j.Log))
		case 2:
			x.LSN = min(api.MaxStamp, x.LSN+r.Int63n(3))
		case 3:
			x.Page = r.Intn(api.MaxPages)
		case 4:
			x.Epoch = max(1, x.Epoch-r.Int63n(2))
		case 5, 6:
			epoch++
		}
		layRecord(t, d, j, node, lsn, x)
		at, _ := area.Record(j, node, lsn)
		switch r.Intn(24) {
		case 0:
			lay(t, d, at+r.Intn(2), api.Sector{})
		case 1:
			s, _ := d.Read(at)
			lay(t, d, at+r.Intn(2), s)
		case 2:
			half := r.Intn(2)
			s, _ := d.Read(at + half)
			s[r.Intn(64)] = byte(r.Intn(256))
			lay(t, d, at+half, s)
		}
	}
}

// P6.1, P0.5, P0.9: whatever stands at the places of heads and records, it is read for what the words say, or refused.
func TestAnyBytes(t *testing.T) {
	r := rand.New(rand.NewSource(6))
	corrupt, lengths := 0, map[int]int{}
	for range 6000 {
		j := of(2+r.Intn(2), 1+r.Intn(3), 2+r.Intn(5))
		d := made(t, j, 1)
		for node := range j.Nodes {
			jumble(t, r, d, j, node)
		}
		for node := range j.Nodes {
			e, n := asWords(t, d, j, node)
			if e != api.OK {
				corrupt++
				continue
			}
			lengths[n]++
		}
	}
	if corrupt < 100 || len(lengths) < 7 {
		t.Errorf("too few kinds of them: %d, %v", corrupt, lengths)
	}
	for range 300 {
		j := of(2, 1+r.Intn(3), 2+r.Intn(5))
		many, _ := area.Sectors(j)
		b := make([]byte, many*api.SectorSize)
		r.Read(b)
		d, _ := device.Of(b, 1, 1)
		asWords(t, d, j, 0)
		asWords(t, d, j, 1)
		at, _ := area.Head(j, 0)
		lay(t, d, at, api.Sector{})
		asWords(t, d, j, 0)
	}
}

// P6.1: what is answered is the caller's; the device is not written, and stays apart from what is told.
func TestReadAnswersNewMemory(t *testing.T) {
	j := of(2, 1, 4)
	d := made(t, j, 1, 1)
	want := []api.Record{recordOf(0, 1, 1, 0, 1), recordOf(0, 1, 2, 0, 2)}
	for _, r := range want {
		layRecord(t, d, j, 0, r.LSN, r)
	}
	was := d.Copy()
	l := opened(t, d, j, 0, 1)
	_, one, _ := redo.Read(d, j, 0)
	_, two, _ := redo.Read(d, j, 0)
	one[0], one[1] = api.Record{}, api.Record{}
	_ = append(one[:0], api.Record{})
	if !slices.Equal(two, want) {
		t.Errorf("what was told has changed: %+v", two)
	}
	has(t, l, want...)
	reads(t, d, j, 0, 1, want...)
	untouched(t, "Read", d, was)
}

// P6.1, P6.5: opened again and again, a log is what it was.
func TestOpenedAgainAndAgain(t *testing.T) {
	j := of(2, 1, 4)
	d := made(t, j, 1, 1)
	l := opened(t, d, j, 0, 1)
	append1(t, l, 0, 1, 1)
	append1(t, l, 0, 2, 2)
	flush(t, l, api.OK)
	was := d.Copy()
	for epoch := range int64(5) {
		l = opened(t, d, j, 0, epoch+1)
		stands(t, l, 1, 3, 2, 2)
		has(t, l, recordOf(0, 1, 1, 0, 1), recordOf(0, 1, 2, 0, 2))
		flush(t, l, api.OK)
	}
	untouched(t, "Open, and Flush of none", d, was)
}
