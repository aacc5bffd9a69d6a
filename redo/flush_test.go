package redo_test

import (
	"math"
	"testing"

	"millpond/api"
	"millpond/area"
	"millpond/device"
	"millpond/record"
	"millpond/redo"
)

// waiting is a log of a node with some records that are flushed, and some that are not, from the PSN 1 on, and all of them.
func waiting(t *testing.T, d *device.Device, j api.Job, node int, epoch int64, flushed, more int) (*redo.Log, []api.Record) {
	t.Helper()
	l := opened(t, d, j, node, epoch)
	var all []api.Record
	for i := range flushed + more {
		if i == flushed {
			flush(t, l, api.OK)
		}
		r := recordOf(node, epoch, l.Next(), i%j.Pages, int64(i)+1)
		append1(t, l, r.Page, r.PSN, r.LSN)
		all = append(all, r)
	}
	if more == 0 {
		flush(t, l, api.OK)
	}
	return l, all
}

// P6.2: pages of the job, and PSNs, at their bounds and just beyond; what is refused changes nothing.
func TestWhatMayBeAppended(t *testing.T) {
	for _, pages := range []int{1, 3, api.MaxPages} {
		j := of(2, pages, api.MaxLog)
		d := made(t, j, 1, 1)
		l := opened(t, d, j, 0, 1)
		var want []api.Record
		for _, page := range []int{0, pages - 1} {
			for _, psn := range []int64{1, 2, api.MaxStamp - 1, api.MaxStamp} {
				lsn := int64(len(want)) + 1
				append1(t, l, page, psn, lsn)
				want = append(want, recordOf(0, 1, lsn, page, psn))
			}
		}
		for _, psn := range []int64{0, -1, api.MaxStamp + 1, math.MaxInt64, math.MinInt64, 1<<32 + 1} {
			refused(t, l, 0, psn, api.ErrArg)
		}
		for _, page := range append([]int{pages, api.MaxPages, api.MaxPages + 1}, far...) {
			refused(t, l, page, 1, api.ErrArg)
			refused(t, l, page, 0, api.ErrArg)
		}
		stands(t, l, 1, 9, 0, api.MaxLog-8)
		has(t, l, want...)
		flush(t, l, api.OK)
		reads(t, d, j, 0, 1, want...)
	}
}

// P6.2: epochs and nodes of all kinds stand in what is written; each log is a node's own.
func TestLogsOfAllNodes(t *testing.T) {
	j := of(api.MaxNodes, 2, 3)
	epochs := []int64{1, 2, 3, 4, 5, 255, 256, api.MaxEpoch}
	d := made(t, j, epochs...)
	var logs []*redo.Log
	var want [][]api.Record
	for node, epoch := range epochs {
		l, all := waiting(t, d, j, node, epoch, 1, node%3)
		logs, want = append(logs, l), append(want, all)
	}
	for _, l := range logs {
		flush(t, l, api.OK)
	}
	for node, l := range want {
		reads(t, d, j, node, 1, l...)
		has(t, logs[node], l...)
	}
}

// P6.2: Append writes nothing; Flush writes two sectors a record, those that wait alone, at their places.
func TestFlushWritesWhatWaits(t *testing.T) {
	j := of(2, 2, 4)
	d := made(t, j, 1, 1)
	l := opened(t, d, j, 1, 1)
	was := d.Copy()
	flush(t, l, api.OK)
	append1(t, l, 1, 1, 1)
	append1(t, l, 0, 2, 2)
	untouched(t, "Append", d, was)
	reads(t, d, j, 1, 1)
	stands(t, l, 1, 3, 0, 2)

	flush(t, l, api.OK)
	for i, r := range []api.Record{recordOf(1, 1, 1, 1, 1), recordOf(1, 1, 2, 0, 2)} {
		s, _ := record.Put(r)
		lay(t, was, 9+9+1+2*i, s[:]...)
	}
	untouched(t, "Flush", d, was) // the same sectors, and as many things done
	stands(t, l, 1, 3, 2, 2)
	flush(t, l, api.OK)
	untouched(t, "Flush again", d, was)

	append1(t, l, 0, 3, 3)
	flush(t, l, api.OK)
	if d.Done() != was.Done()+2 {
		t.Errorf("a record more: %d things were done", d.Done()-was.Done())
	}
}

// P6.2: a log that is full takes no more till it is cut; that is told behind what may not be, and whatever is flushed.
func TestFull(t *testing.T) {
	for _, log := range []int{2, 3, api.MaxLog} {
		j := of(2, 1, log)
		d := made(t, j, 1, 1)
		l, all := waiting(t, d, j, 0, 1, 0, log)
		for range 2 {
			stands(t, l, 1, int64(log)+1, l.Flushed(), 0)
			refused(t, l, 0, 1, api.ErrFull)
			refused(t, l, 0, 0, api.ErrArg)
			refused(t, l, 1, 1, api.ErrArg)
			has(t, l, all...)
			flush(t, l, api.OK)
		}
		reads(t, d, j, 0, 1, all...)
		l = opened(t, d, j, 0, 1)
		refused(t, l, 0, 1, api.ErrFull)
		cut(t, l, 2, api.OK)
		append1(t, l, 0, 9, int64(log)+1)
		refused(t, l, 0, 1, api.ErrFull)
		stands(t, l, 2, int64(log)+2, int64(log), 0)
	}
}

// P6.2: a fenced one flushes nothing; what waits goes on waiting, and what was flushed stands.
func TestFlushOfAFencedOne(t *testing.T) {
	j := of(2, 2, 4)
	for flushed := range 3 {
		d := made(t, j, 1, 1)
		l, all := waiting(t, d, j, 0, 1, flushed, 2)
		d.Up(0)
		was := d.Copy()
		for range 2 {
			flush(t, l, api.ErrFenced)
			stands(t, l, 1, int64(flushed)+3, int64(flushed), 2-flushed)
			has(t, l, all...)
			untouched(t, "Flush", d, was)
			reads(t, d, j, 0, 1, all[:flushed]...)
		}
		if flushed < 2 {
			append1(t, l, 0, 9, int64(flushed)+3) // memory asks nobody
		} else {
			refused(t, l, 0, 9, api.ErrFull)
		}
		m := opened(t, d, j, 0, 2)
		append1(t, m, 1, 7, int64(flushed)+1)
		flush(t, m, api.OK)
		reads(t, d, j, 0, 1, append(all[:flushed:flushed], recordOf(0, 2, int64(flushed)+1, 1, 7))...)
		flush(t, l, api.ErrFenced)
	}
}

// P6.2: of none it is OK, whoever asks.
func TestFlushOfNone(t *testing.T) {
	j := of(2, 1, 2)
	d := made(t, j, 1, 1)
	l, _ := waiting(t, d, j, 0, 1, 1, 0)
	d.Up(0)
	was := d.Copy()
	flush(t, l, api.OK)
	flush(t, opened(t, d, j, 0, 1), api.OK)
	flush(t, opened(t, d, j, 0, api.MaxEpoch), api.OK)
	untouched(t, "Flush of none", d, was)
}

// P6.2, P6.3: whatever the device refuses is told as ErrFenced: an epoch above its own, a node that it does not have.
func TestOtherRefusals(t *testing.T) {
	j := of(3, 1, 2)
	d := made(t, j, 1, 1)
	was := d.Copy()
	for _, l := range []*redo.Log{opened(t, d, j, 0, 2), opened(t, d, j, 1, api.MaxEpoch), opened(t, d, j, 2, 1)} {
		append1(t, l, 0, 1, 1)
		flush(t, l, api.ErrFenced)
		cut(t, l, 1, api.ErrFenced)
		stands(t, l, 1, 2, 0, 1)
	}
	untouched(t, "what is refused", d, was)
}

// P6.2: a Flush that is refused in the midst has flushed those ahead. No node's epoch rises within a call, so the device becomes one that ends too early.
func TestFlushRefusedInTheMidst(t *testing.T) {
	j := of(2, 1, 4)
	for flushed := range 3 {
		for fit := flushed; fit < 4; fit++ {
			d := made(t, j, 1, 1)
			l, all := waiting(t, d, j, 1, 1, flushed, 4-flushed)
			first, _ := area.Record(j, 1, 1)
			small, _ := device.Of(d.Bytes()[:(first+2*fit)*api.SectorSize], 1, 1)
			big := *d
			*d = *small
			flush(t, l, api.ErrFenced)
			stands(t, l, 1, 5, int64(fit), 0)
			has(t, l, all...)
			for i, r := range all[:fit] {
				a, _ := d.Read(first + 2*i)
				b, _ := d.Read(first + 2*i + 1)
				if got, e := record.Get(a, b); got != r || e != api.OK {
					t.Errorf("%d is not flushed: %+v, %v", r.LSN, got, e)
				}
			}
			if d.Done() != int64(2*(fit-flushed)) {
				t.Errorf("%d things were done, for %d records", d.Done(), fit-flushed)
			}
			*d = big
			flush(t, l, api.OK) // from the refused one on
			stands(t, l, 1, 5, 4, 0)
			if d.Done() != int64(2*flushed+2*(4-fit)) {
				t.Errorf("%d things were done in all, for %d records and %d", d.Done(), flushed, 4-fit)
			}
		}
	}
}

// P6.5, P0.5: a crash after any sector of a Flush leaves the flushed ones and a first part of the others; Open goes on behind them, and what is written then is read behind them.
func TestCrashWithinFlush(t *testing.T) {
	for _, j := range []api.Job{of(2, 2, 4), of(2, 1, 2), of(2, 3, 7)} {
		for round := range 3 * j.Log { // how far the log has gone round ahead
			for flushed := range j.Log {
				more := j.Log - flushed
				for sectors := range 2*more + 1 {
					crash(t, j, round, flushed, more, sectors)
				}
			}
		}
	}
}

// crash lets a log go so far, begin anew, flush some, and be cut within the Flush of some more.
func crash(t *testing.T, j api.Job, round, flushed, more, sectors int) {
	t.Helper()
	d := made(t, j, 1, 1)
	l := opened(t, d, j, 0, 1)
	for range round {
		append1(t, l, 0, 1, l.Next())
		flush(t, l, api.OK)
		cut(t, l, l.Next(), api.OK)
	}
	start := l.Start()
	l, all := waiting(t, d, j, 0, 1, flushed, more)
	d.Cut(sectors)
	flush(t, l, api.OK) // who is cut does not know it
	if d.Whole() != (sectors == 2*more) {
		t.Fatalf("%d sectors of %d are not all", sectors, 2*more)
	}
	left := all[:flushed+sectors/2]
	reads(t, d, j, 0, start, left...)

	d.Up(0)
	m := opened(t, d, j, 0, 2)
	next := start + int64(len(left))
	stands(t, m, start, next, next-1, j.Log-len(left))
	if m.Room() == 0 {
		return
	}
	append1(t, m, 0, 77, next)
	flush(t, m, api.OK)
	left = append(left[:len(left):len(left)], recordOf(0, 2, next, 0, 77))
	reads(t, d, j, 0, start, left...)
	has(t, m, left...)
}
