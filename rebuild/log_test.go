package rebuild_test

import (
	"slices"
	"testing"

	"millpond/api"
	"millpond/device"
	"millpond/rebuild"
	"millpond/redo"
)

// P12.1: a new device has empty logs, of all nodes.
func TestEmptyLogs(t *testing.T) {
	j := of(8, 2, 5)
	d := made(t, j)
	for node := range 8 {
		records(t, d, j, node)
	}
}

// P12.1: where a log begins, anywhere and in any epoch, with none up to all of its places; each place goes on behind the last one. Each log is a node's own.
func TestRecordsFromAnyStart(t *testing.T) {
	for _, j := range []api.Job{of(2, 3, 2), of(2, 3, 5), of(3, 16, api.MaxLog)} {
		for _, start := range []int64{1, 2, 3, 5, 6, 63, 64, 65, 1000000007, api.MaxStamp - api.MaxLog, api.MaxStamp - api.MaxLog + 1} {
			for _, many := range []int{0, 1, 2, j.Log - 1, j.Log} {
				d := made(t, j, 1, 1)
				layHead(t, d, j, 1, start, 7)
				var want []api.Record
				for i := range many {
					want = append(want, recordOf(1, 7+int64(i/2), start+int64(i), i%3, 5+int64(i)))
				}
				layRecord(t, d, j, want...)
				records(t, d, j, 1, want...)
				records(t, d, j, 0)
			}
		}
	}
}

// P12.1: what was ahead of Start is not read, nor what stands from a round ago behind the end; a log of two rounds is read over its places' end.
func TestRecordsGoRound(t *testing.T) {
	j := of(2, 1, 4)
	d := made(t, j, 1, 1)
	var all []api.Record
	for lsn := int64(1); lsn <= 20; lsn++ {
		all = append(all, recordOf(0, 1, lsn, 0, lsn))
		layRecord(t, d, j, all[lsn-1])
		for start := max(1, lsn-3); start <= lsn; start++ {
			layHead(t, d, j, 0, start, 1)
			records(t, d, j, 0, all[start-1:]...)
			best(t, d, j, logged(all[lsn-1]))
		}
		layHead(t, d, j, 0, lsn+1, 1)
		records(t, d, j, 0)
		if lsn > 4 {
			layHead(t, d, j, 0, lsn-4, 1) // its place has another one by now
			records(t, d, j, 0)
		}
	}
}

// P12.1: a log may go up to the greatest number, and no further.
func TestRecordsUpToTheGreatestNumber(t *testing.T) {
	for _, j := range []api.Job{of(2, 1, 2), of(2, 1, 4)} {
		for back := range int64(6) {
			d := made(t, j, 1, 1)
			start := api.MaxStamp - back
			layHead(t, d, j, 1, start, 1)
			var want []api.Record
			for lsn := start; lsn <= api.MaxStamp && lsn < start+int64(j.Log); lsn++ {
				want = append(want, recordOf(1, api.MaxEpoch, lsn, 0, api.MaxStamp-back))
			}
			layRecord(t, d, j, want...)
			records(t, d, j, 1, want...)
			best(t, d, j, logged(want[0]))
		}
	}
}

// spoiled are the ways in which a record does not go on behind the one ahead, of the node 1 in a log of 5 places and the epoch 4.
func spoiled() map[string]func(r *api.Record) {
	return map[string]func(r *api.Record){
		"of another node":      func(r *api.Record) { r.Node = 0 },
		"of a node of no job":  func(r *api.Record) { r.Node = 7 },
		"of the round ahead":   func(r *api.Record) { r.LSN -= 5 },
		"of the round to come": func(r *api.Record) { r.LSN += 5 },
		"of one number more":   func(r *api.Record) { r.LSN++ },
		"of one number less":   func(r *api.Record) { r.LSN-- },
		"of the greatest LSN":  func(r *api.Record) { r.LSN = api.MaxStamp },
		"of a lower epoch":     func(r *api.Record) { r.Epoch = 3 },
		"of the epoch 1":       func(r *api.Record) { r.Epoch = 1 },
	}
}

// P12.1: a record that does not go on ends the log, though those behind it stand; wherever it is. (The first one's epoch is held against none.)
func TestRecordsEndWithTheFirstThatDoesNotGoOn(t *testing.T) {
	j := of(2, 3, 5)
	for name, spoil := range spoiled() {
		for bad := range 5 {
			d := made(t, j, 1, 1)
			layHead(t, d, j, 1, 7, 4)
			var want []api.Record
			for i := range 5 {
				r := recordOf(1, 4, 7+int64(i), i%3, 9+int64(i))
				if i < bad {
					want = append(want, r)
				}
				if i == bad {
					spoil(&r)
				}
				layAs(t, d, j, 1, 7+int64(i), r)
			}
			if l, e := rebuild.Records(d, j, 1); e != api.OK || len(l) < bad || !slices.Equal(l[:bad], want) {
				t.Errorf("%s at %d: %+v, %v", name, bad, l, e)
			} else if lower := name == "of a lower epoch" || name == "of the epoch 1"; (len(l) > bad) != (bad == 0 && lower) {
				t.Errorf("%s at %d: %d records", name, bad, len(l))
			}
		}
	}
}

// P12.1, P0.5: a torn record ends the log: one of which a half is wanting, is of the round ahead, of another record or stands in the other half's sector; wherever it is. What stands behind it does not count.
func TestRecordsEndWithATornOne(t *testing.T) {
	j := of(2, 3, 5)
	for bad := range 5 {
		for half := range 2 {
			good := recordOf(1, 4, 7+int64(bad), 1, 20)
			halves := halvesOf(t, good)
			others := []api.Sector{{}, halves[1-half], {177}, {178}}
			for _, change := range []func(r *api.Record){
				func(r *api.Record) { r.LSN -= 5 }, func(r *api.Record) { r.LSN++ }, func(r *api.Record) { r.PSN++ },
				func(r *api.Record) { r.Page++ }, func(r *api.Record) { r.Epoch++ }, func(r *api.Record) { r.Node = 0 },
			} {
				r := good
				change(&r)
				others = append(others, halvesOf(t, r)[half])
			}
			for i, s := range others {
				d := made(t, j, 1, 1)
				layHead(t, d, j, 1, 7, 4)
				var want []api.Record
				for i := range 5 {
					r := recordOf(1, 4, 7+int64(i), 0, 9)
					if i < bad {
						want = append(want, r)
					}
					layRecord(t, d, j, r)
				}
				layRecord(t, d, j, good)
				lay(t, d, recordAt(t, j, 1, good.LSN)+half, s)
				if l, e := rebuild.Records(d, j, 1); e != api.OK || !slices.Equal(l, want) {
					t.Errorf("the half %d of the record %d as %d: %+v, %v", half, bad, i, l, e)
				}
			}
		}
	}
}

// P12.1: epochs may rise from record to record, and not fall; the head's says nothing.
func TestRecordsEpochs(t *testing.T) {
	j := of(2, 1, 4)
	for _, x := range []struct {
		epochs []int64
		want   int
	}{
		{[]int64{1, 1, 1, 1}, 4}, {[]int64{1, 2, 9, api.MaxEpoch}, 4}, {[]int64{2, 1, 2, 2}, 1}, {[]int64{1, 3, 3, 2}, 3}, {[]int64{2, 2, 1, 2}, 2},
		{[]int64{api.MaxEpoch, api.MaxEpoch, api.MaxEpoch - 1, 1}, 2}, {[]int64{api.MaxEpoch - 1, api.MaxEpoch, api.MaxEpoch, api.MaxEpoch}, 4},
	} {
		for _, head := range []int64{0, 1, 2, 3, api.MaxEpoch} {
			d := made(t, j, 1, 1)
			if head > 0 {
				layHead(t, d, j, 0, 1, head)
			}
			var want []api.Record
			for i, epoch := range x.epochs {
				want = append(want, recordOf(0, epoch, int64(i)+1, 0, 1))
			}
			layRecord(t, d, j, want...)
			records(t, d, j, 0, want[:x.want]...)
		}
	}
}

// P12.1, P12.2: records of pages that are none of the job's stand in the log's order, so that those behind them count, and are best ones of no page.
func TestPagesOfNoJob(t *testing.T) {
	j := of(2, 2, 4)
	for _, foreign := range []int{2, 3, 15} {
		for where := range 4 {
			d := made(t, j, 1, 1)
			var want []api.Record
			for i := range 4 {
				r := recordOf(1, 1, int64(i)+1, i%2, int64(i)+1)
				if i == where {
					r.Page, r.PSN = foreign, 100
				}
				want = append(want, r)
			}
			layRecord(t, d, j, want...)
			records(t, d, j, 1, want...)
			found := []api.Found{in(0, api.Version{}), in(1, api.Version{})}
			for _, r := range want {
				if r.Page < 2 {
					found[r.Page] = logged(r)
				}
			}
			best(t, d, j, found...)
			was := d.Copy()
			rebuilt(t, d, j, 0, 1, 2)
			for _, f := range found {
				layPage(t, was, j, f.Page, f.V)
			}
			if !device.Same(d, was) {
				t.Errorf("the page %d at %d: Rebuild wrote something else", foreign, where)
			}
		}
	}
}

// P12.1: a record of no page of the job has an epoch like any other one, and breaks the order like any other one.
func TestPagesOfNoJobHaveEpochs(t *testing.T) {
	j := of(2, 1, 3)
	d := made(t, j, 1, 1)
	one, two, three := recordOf(0, 2, 1, 0, 1), recordOf(0, 5, 2, 9, 1), recordOf(0, 3, 3, 0, 2)
	layRecord(t, d, j, one, two, three)
	records(t, d, j, 0, one, two)
	best(t, d, j, logged(one))
	three.Epoch = 5
	layRecord(t, d, j, three)
	records(t, d, j, 0, one, two, three)
	best(t, d, j, logged(three))
}

// P12.1: what layer 6 flushed is what is read, and no more.
func TestRecordsOfALog(t *testing.T) {
	j := of(2, 2, 4)
	d := made(t, j, 1, 1)
	l, _ := redo.Open(d, j, 1, 1)
	var all []api.Record
	for i := range 11 {
		v := version(int64(i)+1, byte(i))
		lsn, e := l.Append(i%2, v)
		if e != api.OK {
			t.Fatal(e)
		}
		records(t, d, j, 1, all...)
		l.Flush()
		all = append(all, api.Record{Node: 1, Epoch: 1, LSN: lsn, Page: i % 2, PSN: v.PSN, Body: v.Body})
		records(t, d, j, 1, all...)
		if i%3 == 2 {
			l.Cut(lsn)
			all = all[len(all)-1:]
			records(t, d, j, 1, all...)
		}
	}
}

// What is answered is the caller's: what becomes of it changes nothing that is told later.
func TestAnswersAreNewMemory(t *testing.T) {
	j := of(2, 2, 2)
	d := made(t, j, 1, 1)
	one, two := recordOf(0, 1, 1, 0, 1), recordOf(0, 1, 2, 1, 2)
	layRecord(t, d, j, one, two)
	was := d.Copy()
	for range 2 {
		l, _ := rebuild.Records(d, j, 0)
		f, _ := rebuild.Best(d, j)
		v, _ := rebuild.Durable(d, j)
		clear(l)
		clear(f)
		clear(v)
		_, _, _ = append(l[:0], two), append(f[:0], nought(1)), append(v[:0], version(9, 'z'))
		records(t, d, j, 0, one, two)
		best(t, d, j, logged(one), logged(two))
	}
	untouched(t, "what is done with answers", d, was)
}
