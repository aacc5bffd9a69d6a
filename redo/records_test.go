package redo_test

import (
	"slices"
	"testing"

	"millpond/api"
)

// P6.4: all of them, flushed or not, rising; of a log that begins anywhere.
func TestRecordsGoesOverAll(t *testing.T) {
	j := of(2, 3, 6)
	for flushed := range 7 {
		for more := range 7 - flushed {
			d := made(t, j, 1, 2)
			layHead(t, d, j, 1, 5, 1)
			l, all := waiting(t, d, j, 1, 2, flushed, more)
			has(t, l, all...)
			if flushed > 0 {
				cut(t, l, 6, api.OK)
				has(t, l, all[1:]...)
			}
		}
	}
}

// P6.4: it may be left behind each one, tells nothing more then, and is gone over again, the one within the other too.
func TestRecordsMayBeLeft(t *testing.T) {
	j := of(2, 2, 5)
	l, all := waiting(t, made(t, j, 1, 1), j, 0, 1, 2, 3)
	over := l.Records()
	for last := range all {
		var got []api.Record
		over(func(r api.Record) bool {
			got = append(got, r)
			return len(got) <= last
		})
		if !slices.Equal(got, all[:last+1]) {
			t.Errorf("left behind %d: %+v", last, got)
		}
	}
	var got []api.Record
	for range over {
		for r := range over {
			got = append(got, r)
		}
	}
	if !slices.Equal(got, slices.Concat(all, all, all, all, all)) {
		t.Errorf("the one within the other: %+v", got)
	}
}

// P6.4: as they are when Records is called, whatever becomes of the log behind that, and while one goes over them.
func TestRecordsAsTheyAreWhenCalled(t *testing.T) {
	j := of(2, 1, 3)
	d := made(t, j, 1, 1)
	l, all := waiting(t, d, j, 0, 1, 1, 1)
	over := l.Records()
	append1(t, l, 0, 3, 3)
	later := l.Records()
	flush(t, l, api.OK)
	cut(t, l, 4, api.OK)
	none := l.Records()
	for n := range int64(6) { // the places are gone round, and so is what waits
		append1(t, l, 0, 50+n, 4+n)
		flush(t, l, api.OK)
		cut(t, l, 5+n, api.OK)
	}
	for range 2 {
		var got []api.Record
		for r := range over {
			got = append(got, r)
			append1(t, l, 0, 99, l.Next())
			flush(t, l, api.OK)
			cut(t, l, l.Next(), api.OK)
		}
		if !slices.Equal(got, all) {
			t.Errorf("%+v, not %+v", got, all)
		}
	}
	if got := slices.Collect(later); !slices.Equal(got, append(all, recordOf(0, 1, 3, 0, 3))) {
		t.Errorf("%+v", got)
	}
	if got := slices.Collect(none); len(got) != 0 {
		t.Errorf("%+v", got)
	}
}

// P6.4: looking, and what is refused, changes nothing.
func TestLooksChangeNothing(t *testing.T) {
	j := of(2, 1, 4)
	d := made(t, j, 1, 1)
	l, all := waiting(t, d, j, 0, 1, 2, 1)
	was := d.Copy()
	for range 3 {
		stands(t, l, 1, 4, 2, 1)
		has(t, l, all...)
		refused(t, l, 1, 1, api.ErrArg)
		cut(t, l, 4, api.ErrArg)
		reads(t, d, j, 0, 1, all[:2]...)
	}
	untouched(t, "looks", d, was)
	append1(t, l, 0, 4, 4)
	for range 3 {
		refused(t, l, 0, 5, api.ErrFull)
		stands(t, l, 1, 5, 2, 0)
	}
	untouched(t, "looks", d, was)
	has(t, l, append(all, recordOf(0, 1, 4, 0, 4))...)
}

// P6.5: behind a Flush Read tells what Records does; ahead of it the flushed ones alone.
func TestReadAndRecordsAgree(t *testing.T) {
	j := of(2, 2, 6)
	for flushed := range 4 {
		for more := range 3 {
			d := made(t, j, 1, 1)
			l, all := waiting(t, d, j, 0, 1, flushed, more)
			reads(t, d, j, 0, 1, all[:flushed]...)
			flush(t, l, api.OK)
			reads(t, d, j, 0, 1, slices.Collect(l.Records())...)
			reads(t, d, j, 0, 1, all...)
		}
	}
}
