package redo_test

import (
	"math"
	"testing"

	"millpond/api"
	"millpond/area"
	"millpond/device"
	"millpond/record"
)

// headed fails unless that head stands at its place.
func headed(t *testing.T, d *device.Device, j api.Job, node int, start, epoch int64) {
	t.Helper()
	at, _ := area.Head(j, node)
	s, _ := d.Read(at)
	if h, e := record.TakeHead(s); h != (api.Head{Start: start, Epoch: epoch}) || e != api.OK {
		t.Errorf("the head is %+v, %v; not %d, %d", h, e, start, epoch)
	}
}

// P6.3: from Start to Flushed and 1; just below, just above and far off it is refused, and nothing changes.
func TestWhereALogMayBeCut(t *testing.T) {
	j := of(2, 2, 6)
	for _, round := range []int64{0, 1, 5, 6, 7} {
		for flushed := range 4 {
			for more := range 3 {
				d := made(t, j, 3, 3)
				if round > 0 {
					layHead(t, d, j, 1, round+1, 2)
				}
				l, all := waiting(t, d, j, 1, 3, flushed, more)
				start, end := l.Start(), l.Flushed()+1
				was := d.Copy()
				for _, n := range []int64{start - 1, end + 1, end + 2, 0, -1, math.MaxInt64, math.MinInt64, api.MaxStamp, start + 1<<32, start - 1<<32} {
					cut(t, l, n, api.ErrArg)
				}
				untouched(t, "what is refused", d, was)
				stands(t, l, start, end+int64(more), end-1, 6-flushed-more)
				has(t, l, all...)

				for n := start; n <= end; n++ { // a log that is cut further and further
					done, gone := d.Done(), n-start
					cut(t, l, n, api.OK)
					if d.Done() != done+1 {
						t.Errorf("Cut(%d) did %d things", n, d.Done()-done)
					}
					headed(t, d, j, 1, n, 3)
					stands(t, l, n, end+int64(more), end-1, 6-flushed-more+int(gone))
					has(t, l, all[gone:]...)
					reads(t, d, j, 1, n, all[gone:flushed]...)
					cut(t, l, n-1, api.ErrArg)
				}
				flush(t, l, api.OK)
				reads(t, d, j, 1, end, all[flushed:]...)
			}
		}
	}
}

// P6.3: at once to each place, and nothing else on the device is written.
func TestCutWritesTheHeadAlone(t *testing.T) {
	j := of(2, 2, 5)
	for n := int64(1); n <= 5; n++ {
		d := made(t, j, 1, 1)
		l, all := waiting(t, d, j, 0, 1, 4, 1)
		was := d.Copy()
		cut(t, l, n, api.OK)
		layHead(t, was, j, 0, n, 1)
		untouched(t, "Cut, but for the head", d, was)
		has(t, l, all[n-1:]...)
	}
}

// P6.3: also where nothing changes the head is written, with this log's epoch.
func TestCutWhereNothingChanges(t *testing.T) {
	j := of(2, 1, 2)
	d := made(t, j, 5, 1)
	headed(t, d, j, 0, 1, 0)
	for _, epoch := range []int64{5, 6} {
		l := opened(t, d, j, 0, epoch)
		for range 2 {
			done := d.Done()
			cut(t, l, 1, api.OK)
			headed(t, d, j, 0, 1, epoch)
			if d.Done() != done+1 {
				t.Errorf("%d things were done", d.Done()-done)
			}
		}
		d.Up(0)
	}
}

// P6.3: a fenced one cuts nothing; what may not be is told ahead of that.
func TestCutOfAFencedOne(t *testing.T) {
	j := of(2, 1, 4)
	d := made(t, j, 1, 1)
	l, all := waiting(t, d, j, 0, 1, 2, 1)
	d.Up(0)
	was := d.Copy()
	for _, n := range []int64{0, 4, 5} {
		cut(t, l, n, api.ErrArg)
	}
	for n := int64(1); n <= 3; n++ {
		cut(t, l, n, api.ErrFenced)
	}
	stands(t, l, 1, 4, 2, 1)
	has(t, l, all...)
	untouched(t, "Cut", d, was)
}

// P6.3, P6.5: a Cut that a crash takes back is not on the device; one that it doesn't is.
func TestCrashWithinCut(t *testing.T) {
	j := of(2, 1, 4)
	for things := range 2 {
		d := made(t, j, 1, 1)
		l, all := waiting(t, d, j, 0, 1, 3, 0)
		d.Cut(things)
		cut(t, l, 3, api.OK)
		stands(t, l, 3, 4, 3, 3)
		if d.Whole() != (things == 1) {
			t.Fatal("Cut is more than one thing, or none")
		}
		reads(t, d, j, 0, int64(1+2*things), all[2*things:]...)
	}
}

// P6.3, P6.1: as a node does it that comes up, a log of elder epochs is cut behind its last record; then it has the epoch's own ones alone.
func TestCutBehindElderRecords(t *testing.T) {
	j := of(2, 2, 3)
	d := made(t, j, 1, 1)
	waiting(t, d, j, 0, 1, 3, 0)
	d.Up(0)
	l := opened(t, d, j, 0, 2)
	stands(t, l, 1, 4, 3, 0)
	cut(t, l, 4, api.OK)
	headed(t, d, j, 0, 4, 2)
	reads(t, d, j, 0, 4)
	append1(t, l, 1, 8, 4)
	flush(t, l, api.OK)
	reads(t, d, j, 0, 4, recordOf(0, 2, 4, 1, 8))
}

// P6.3, P6.1: cut amidst elder records, the head has this log's epoch all the same: the log goes on with them, and the device, by its words, says none of them.
func TestCutAmidstElderRecords(t *testing.T) {
	j := of(2, 1, 4)
	d := made(t, j, 1, 1)
	_, all := waiting(t, d, j, 0, 1, 3, 0)
	d.Up(0)
	l := opened(t, d, j, 0, 2)
	cut(t, l, 2, api.OK)
	headed(t, d, j, 0, 2, 2)
	stands(t, l, 2, 4, 3, 2)
	has(t, l, all[1:]...)
	reads(t, d, j, 0, 2)
}

// P6.5: places are gone round many times; what stands there from the rounds ahead is never read as a record of now.
func TestALogGoesRound(t *testing.T) {
	for _, log := range []int{2, 3, 4, 7, api.MaxLog} {
		j := of(2, 2, log)
		for keep := range min(log, 5) {
			d := made(t, j, 1, 1)
			l := opened(t, d, j, 1, 1)
			var all []api.Record
			for n := range int64(6 * log) {
				r := recordOf(1, 1, n+1, int(n%2), n+1)
				append1(t, l, r.Page, r.PSN, r.LSN)
				reads(t, d, j, 1, l.Start(), all...)
				flush(t, l, api.OK)
				all = append(all, r)
				reads(t, d, j, 1, l.Start(), all...)
				if len(all) > keep {
					all = all[len(all)-keep:]
					cut(t, l, r.LSN+1-int64(keep), api.OK)
				}
				stands(t, l, r.LSN+1-int64(len(all)), r.LSN+1, r.LSN, log-len(all))
				reads(t, d, j, 1, l.Start(), all...)
				has(t, l, all...)
			}
		}
	}
}

// P6.2, P6.3, P6.4: numbers up to the greatest one; Next gets there, and no record does.
func TestNumbersUpToTheGreatest(t *testing.T) {
	for _, log := range []int{2, 4} {
		j := of(2, 1, log)
		for back := range int64(log) {
			d := made(t, j, 1, 1)
			start := api.MaxStamp - back
			layHead(t, d, j, 0, start, 1)
			l := opened(t, d, j, 0, 1)
			var all []api.Record
			for n := start; n < api.MaxStamp; n++ {
				stands(t, l, start, n, start-1, log-len(all))
				append1(t, l, 0, n, n)
				all = append(all, recordOf(0, 1, n, 0, n))
			}
			for range 2 {
				stands(t, l, start, api.MaxStamp, l.Flushed(), 0)
				refused(t, l, 0, 1, api.ErrFull)
				flush(t, l, api.OK)
				reads(t, d, j, 0, start, all...)
			}
			cut(t, l, api.MaxStamp+1, api.ErrArg)
			cut(t, l, api.MaxStamp, api.OK)
			for range 2 {
				stands(t, l, api.MaxStamp, api.MaxStamp, api.MaxStamp-1, 0)
				refused(t, l, 0, 1, api.ErrFull)
				flush(t, l, api.OK)
				reads(t, d, j, 0, api.MaxStamp)
				l = opened(t, d, j, 0, 1)
			}
		}
	}
}
