package record_test

import (
	"math"
	"slices"
	"testing"

	"millpond/api"
	"millpond/page"
	"millpond/record"
)

// of is a record with these bytes ahead.
func of(node int, epoch, lsn int64, page int, psn int64, s string) api.Record {
	r := api.Record{Node: node, Epoch: epoch, LSN: lsn, Page: page, PSN: psn}
	copy(r.Body[:], s)
	return r
}

// filled is the record with all bytes of its body there, each unlike its neighbours.
func filled(r api.Record) api.Record {
	for i := range r.Body {
		r.Body[i] = byte(i + 100)
	}
	return r
}

// some are records at the edges and between, no two of which are alike in all but the body.
func some() []api.Record {
	return []api.Record{
		of(0, 1, 1, 0, 1, ""), filled(of(1, 2, 3, 4, 5, "")), of(1, 2, 4, 4, 5, "x"), of(1, 2, 3, 4, 6, "a\x00b"), filled(of(2, 2, 3, 4, 5, "")),
		filled(of(1, 3, 3, 4, 5, "")), of(1, 2, 3, 5, 5, "xyz"), of(4, 1, 2, 3, 5, ""), of(3, 3, 3, 3, 3, "3"), filled(of(7, 0x01020304, 0x05060708, 15, 0x090a0b0c, "")),
		filled(of(7, 255, 256, 15, 1<<24, "")), of(0, 1, 1, 15, 1, "x"), of(7, 1, 1, 0, 1, "x"), of(0, api.MaxEpoch, 1, 0, 1, ""), of(0, 1, api.MaxStamp, 0, 1, ""),
		of(0, 1, 1, 0, api.MaxStamp, ""), filled(of(7, api.MaxEpoch, api.MaxStamp, 15, api.MaxStamp, "")), filled(of(6, api.MaxEpoch-1, api.MaxStamp-1, 14, api.MaxStamp-1, "")),
	}
}

// unlike are records that may not be, each for one number; some of these have one that may be in their lowest byte, or in their lowest four.
func unlike() []api.Record {
	var l []api.Record
	right := of(1, 2, 3, 4, 5, "x")
	for _, n := range []int{-1, api.MaxNodes, api.MaxNodes + 1, 15, 16, 17, 256, 257, -255, 1 << 32, 1<<32 + 1, math.MaxInt, math.MinInt} {
		r := right
		r.Node = n
		l = append(l, r)
	}
	for _, n := range []int{-1, api.MaxPages, api.MaxPages + 1, 20, 256, 260, -252, 1 << 32, 1<<32 + 4, math.MaxInt, math.MinInt} {
		r := right
		r.Page = n
		l = append(l, r)
	}
	for _, n := range wrongNumbers {
		one, two, three := right, right, right
		one.Epoch, two.LSN, three.PSN = n, n, n
		l = append(l, one, two, three)
	}
	return l
}

// wrongNumbers are no epochs, no LSNs and no PSNs.
var wrongNumbers = []int64{0, -1, math.MinInt64, api.MaxStamp + 1, math.MaxInt64, 1 << 32, 1<<32 + 5, 5 - 1<<32}

// put are the sectors of a record that may be.
func put(t *testing.T, r api.Record) [2]api.Sector {
	t.Helper()
	l, e := record.Put(r)
	if e != api.OK {
		t.Fatalf("Put(%+v): %v", r, e)
	}
	return l
}

// is fails unless two sectors are whole, and of that record.
func is(t *testing.T, a, b api.Sector, want api.Record) {
	t.Helper()
	if r, e := record.Get(a, b); r != want || e != api.OK || !record.Whole(a, b) {
		t.Errorf("Get: %+v, %v, Whole is %v; not %+v", r, e, record.Whole(a, b), want)
	}
}

// refused fails unless two sectors are refused.
func refused(t *testing.T, name string, a, b api.Sector) {
	t.Helper()
	if r, e := record.Get(a, b); r != (api.Record{}) || e != api.ErrCorrupt || record.Whole(a, b) {
		t.Errorf("%s: Get: %+v, %v, Whole is %v", name, r, e, record.Whole(a, b))
	}
}

// byWords are a record's sectors byte by byte, as the chapter says them.
func byWords(r api.Record) [2]api.Sector {
	var l [2]api.Sector
	l[0][0], l[1][0] = 177, 178
	for i := range l {
		l[i][1] = byte(16*r.Node + r.Page)
		for at, n := range map[int]int64{2: r.Epoch, 6: r.LSN, 10: r.PSN} {
			l[i][at] = byte(n / (256 * 256 * 256))
			l[i][at+1] = byte(n / (256 * 256) % 256)
			l[i][at+2] = byte(n / 256 % 256)
			l[i][at+3] = byte(n % 256)
		}
		for at := 14; at <= 61; at++ {
			l[i][at] = r.Body[48*i+at-14]
		}
	}
	return l
}

// P4.1: each byte of the two sectors, of each node and page.
func TestPutLaysEachByte(t *testing.T) {
	for _, r := range some() {
		for r.Node = range api.MaxNodes {
			for r.Page = range api.MaxPages {
				if l, e := record.Put(r); l != byWords(r) || e != api.OK {
					t.Errorf("Put(%+v): % x, %v", r, l, e)
				}
			}
		}
	}
	l := put(t, of(7, 0x01020304, 0x05060708, 15, 0x090a0b0c, "first"))
	if string(l[0][:20]) != "\xb1\x7f\x01\x02\x03\x04\x05\x06\x07\x08\x09\x0a\x0b\x0cfirst\x00" || string(l[1][:15]) != "\xb2\x7f\x01\x02\x03\x04\x05\x06\x07\x08\x09\x0a\x0b\x0c\x00" {
		t.Errorf("% x", l)
	}
}

// P4.1
func TestRecordsThatMayNotBe(t *testing.T) {
	for _, r := range unlike() {
		for _, w := range []api.Record{r, filled(r)} {
			if l, e := record.Put(w); l != [2]api.Sector{} || e != api.ErrArg {
				t.Errorf("Put(%+v): % x, %v", w, l, e)
			}
		}
	}
	if l, e := record.Put(api.Record{}); l != [2]api.Sector{} || e != api.ErrArg {
		t.Errorf("Put of no record: % x, %v", l, e)
	}
}

// P4.1: the least and the greatest numbers that may be.
func TestRecordsAtTheirBounds(t *testing.T) {
	for _, node := range []int{0, api.MaxNodes - 1} {
		for _, p := range []int{0, api.MaxPages - 1} {
			for _, epoch := range []int64{1, api.MaxEpoch} {
				for _, lsn := range []int64{1, api.MaxStamp} {
					for _, psn := range []int64{1, api.MaxStamp} {
						r := of(node, epoch, lsn, p, psn, "x")
						l := put(t, r)
						is(t, l[0], l[1], r)
					}
				}
			}
		}
	}
}

// P4.5, P0.11
func TestGetOfPut(t *testing.T) {
	for _, r := range some() {
		for r.Node = range api.MaxNodes {
			for r.Page = range api.MaxPages {
				l := put(t, r)
				is(t, l[0], l[1], r)
			}
		}
	}
	for i := range api.BodySize { // no byte stands for another one
		r := filled(of(1, 2, 3, 4, 5, ""))
		r.Body[i] = 0
		l := put(t, r)
		is(t, l[0], l[1], r)
		r = of(1, 2, 3, 4, 5, "")
		r.Body[i] = 255
		l = put(t, r)
		is(t, l[0], l[1], r)
	}
}

// P4.5, P0.5: the first sector of one and the second one of another that differs in anything but the body are not whole; nor are two firsts, two seconds, or two changed round.
func TestTornSectorsAreNotWhole(t *testing.T) {
	for i, r := range some() {
		a := put(t, r)
		refused(t, "changed round", a[1], a[0])
		refused(t, "the first twice", a[0], a[0])
		refused(t, "the second twice", a[1], a[1])
		refused(t, "the first and noughts", a[0], api.Sector{})
		refused(t, "noughts and the second", api.Sector{}, a[1])
		for j, w := range some() {
			if i == j {
				continue
			}
			b := put(t, w)
			refused(t, "one's first, another's second", a[0], b[1])
			refused(t, "two firsts", a[0], b[0])
			refused(t, "two seconds", a[1], b[1])
			refused(t, "one's second, another's first", a[1], b[0])
		}
	}
	refused(t, "noughts", api.Sector{}, api.Sector{})
}

// P4.5, P0.5: one number alone tells two records apart, of whichever bytes: here it differs in one bit of it.
func TestOneBitTellsRecordsApart(t *testing.T) {
	right := filled(of(5, 0x2aaaaaaa, 0x55555555, 10, 0x33333333, ""))
	a := put(t, right)
	var others []api.Record
	for bit := range 31 {
		one, two, three := right, right, right
		one.Epoch ^= 1 << bit
		two.LSN ^= 1 << bit
		three.PSN ^= 1 << bit
		others = append(others, one, two, three)
	}
	for bit := range 4 {
		one, two := right, right
		one.Page ^= 1 << bit
		two.Node ^= 1 << (bit % 3)
		others = append(others, one, two)
	}
	for _, r := range others {
		b := put(t, r)
		is(t, b[0], b[1], r)
		refused(t, "one's first, another's second", a[0], b[1])
		refused(t, "another's first, one's second", b[0], a[1])
	}
}

// P4.5, P0.5: a write that is cut behind none, one or both of its sectors leaves the elder record, none, or the younger one; written again, it is whole.
func TestCutWrites(t *testing.T) {
	for i, was := range some() {
		for _, will := range some()[i+1:] {
			elder, younger := put(t, was), put(t, will)
			now := elder
			is(t, now[0], now[1], was)
			now[0] = younger[0]
			refused(t, "cut", now[0], now[1])
			now[1] = younger[1]
			is(t, now[0], now[1], will)
		}
	}
}

// P4.1: two halves of records that are alike in all but the body are those of one record, namely that which has both.
func TestHalvesOfLikeRecords(t *testing.T) {
	one, other := of(1, 2, 3, 4, 5, "x"), filled(of(1, 2, 3, 4, 5, ""))
	a, b := put(t, one), put(t, other)
	want := other
	copy(want.Body[:], one.Body[:48])
	is(t, a[0], b[1], want)
}

// P4.5: a record's sectors are no page's, and no head's.
func TestRecordsSectorsAreNothingElse(t *testing.T) {
	for _, r := range some() {
		l := put(t, r)
		for _, s := range l {
			if x, ok := page.Stamp(s); ok {
				t.Errorf("%+v is the page's %+v", r, x)
			}
			if h, e := record.TakeHead(s); h != (api.Head{}) || e != api.ErrCorrupt {
				t.Errorf("%+v is the head %+v, %v", r, h, e)
			}
		}
		for p := range api.MaxPages {
			if page.Whole(p, l[0], l[1]) || page.Whole(p, l[1], l[0]) || page.Whole(p, l[0], api.Sector{}) || page.Whole(p, api.Sector{}, l[1]) {
				t.Errorf("%+v is a version of the page %d", r, p)
			}
		}
	}
	for p := range api.MaxPages { // nor the other way round
		for _, psn := range []int64{0, 1, 5, api.MaxStamp} {
			l, _ := page.Put(p, api.Version{PSN: psn})
			refused(t, "a page's", l[0], l[1])
			unstamped(t, "a page's first", l[0])
			unstamped(t, "a page's second", l[1])
		}
	}
}

// follows fails unless Follows of the two is that.
func follows(t *testing.T, a, b api.Record, want bool) {
	t.Helper()
	if got := record.Follows(a, b); got != want {
		t.Errorf("Follows(%+v, %+v): %v", a, b, got)
	}
}

// P4.4: the LSN is just one more, at whatever numbers, but it does not go round.
func TestFollowsByLSN(t *testing.T) {
	for _, x := range []struct {
		a, b int64
		want bool
	}{
		{3, 4, true}, {3, 3, false}, {3, 2, false}, {3, 5, false}, {4, 3, false}, {1, 2, true}, {0, 1, true}, {-1, 0, true}, {0, 0, false}, {1, 0, false},
		{api.MaxStamp - 1, api.MaxStamp, true}, {api.MaxStamp, api.MaxStamp + 1, true}, {api.MaxStamp, 1, false}, {api.MaxStamp, 0, false}, {api.MaxStamp, -api.MaxStamp - 1, false},
		{1<<32 - 1, 1 << 32, true}, {3, 1<<32 + 4, false}, {1<<32 + 3, 4, false}, {-8, -7, true}, {-7, -8, false},
		{math.MaxInt64 - 1, math.MaxInt64, true}, {math.MaxInt64, math.MinInt64, false}, {math.MinInt64, math.MaxInt64, false}, {math.MinInt64, math.MinInt64 + 1, true},
		{math.MaxInt64, math.MaxInt64, false}, {math.MinInt64, math.MinInt64, false}, {math.MaxInt64, math.MaxInt64 - 1, false}, {math.MinInt64 + 1, math.MinInt64, false},
	} {
		follows(t, of(1, 2, x.a, 4, 5, "a"), of(1, 2, x.b, 4, 6, "b"), x.want)
	}
}

// P4.4
func TestFollowsByNode(t *testing.T) {
	for _, a := range []int{-1, 0, 1, 7, 8, 16, math.MaxInt, math.MinInt} {
		for _, b := range []int{-1, 0, 1, 7, 8, 16, math.MaxInt, math.MinInt} {
			follows(t, of(a, 2, 3, 4, 5, ""), of(b, 2, 4, 4, 5, ""), a == b)
		}
	}
}

// P4.4
func TestFollowsByEpoch(t *testing.T) {
	for _, x := range []struct {
		a, b int64
		want bool
	}{
		{2, 1, false}, {2, 2, true}, {2, 3, true}, {1, api.MaxEpoch, true}, {api.MaxEpoch, 1, false}, {api.MaxEpoch, api.MaxEpoch, true}, {api.MaxEpoch, api.MaxEpoch - 1, false},
		{0, 0, true}, {0, -1, false}, {-1, 0, true}, {math.MinInt64, math.MaxInt64, true}, {math.MaxInt64, math.MinInt64, false}, {math.MaxInt64, math.MaxInt64, true}, {1 << 32, 5, false},
	} {
		follows(t, of(1, x.a, 3, 4, 5, ""), of(1, x.b, 4, 4, 5, ""), x.want)
	}
}

// P4.4: page, PSN and body are not asked, whatever they are.
func TestFollowsAsksNoPage(t *testing.T) {
	a := of(1, 2, 3, 4, 5, "a")
	for _, b := range []api.Record{of(1, 2, 4, 4, 5, "a"), of(1, 2, 4, 9, 1, ""), of(1, 2, 4, -1, 0, "z"), of(1, 2, 4, math.MaxInt, math.MinInt64, ""), filled(of(1, 2, 4, 0, api.MaxStamp, ""))} {
		follows(t, a, b, true)
	}
}

// lsns are records of one node and epoch, of these LSNs.
func lsns(l ...int64) []api.Record {
	var records []api.Record
	for _, n := range l {
		records = append(records, of(1, 2, n, 4, 5, "x"))
	}
	return records
}

// P4.4
func TestRun(t *testing.T) {
	low, same, high, other := of(1, 1, 4, 4, 6, ""), of(1, 2, 4, 4, 6, ""), of(1, 3, 4, 4, 6, ""), of(2, 2, 4, 4, 6, "")
	three := of(1, 2, 3, 4, 5, "")
	for i, x := range []struct {
		start int64
		l     []api.Record
		want  int
	}{
		{3, nil, 0}, {3, []api.Record{}, 0}, {0, nil, 0}, {-1, nil, 0},
		{3, lsns(3), 1}, {3, lsns(2), 0}, {3, lsns(4), 0}, {1, lsns(1), 1}, {0, lsns(1), 0}, {-3, lsns(3), 0}, {3, lsns(1<<32 + 3), 0},
		{3, lsns(3, 4, 5, 6), 4}, {3, lsns(3, 4, 6, 7), 2}, {3, lsns(3, 4, 4), 2}, {3, lsns(3, 3, 4), 1}, {3, lsns(3, 4, 3, 4), 2}, {3, lsns(3, 5, 4, 5), 1}, {3, lsns(4, 5, 6), 0}, {3, lsns(2, 3, 4), 0}, {3, lsns(4, 3, 4), 0},
		{3, []api.Record{three, low}, 1}, {3, []api.Record{three, same}, 2}, {3, []api.Record{three, high}, 2}, {3, []api.Record{three, other}, 1},
		{3, []api.Record{three, high, of(1, 2, 5, 4, 7, "")}, 2}, {3, []api.Record{three, high, of(1, 3, 5, 4, 7, "")}, 3}, {3, []api.Record{three, low, of(1, 2, 5, 4, 7, "")}, 1}, {3, []api.Record{three, other, of(2, 2, 5, 4, 7, "")}, 1},
		{4, []api.Record{other}, 1}, {4, []api.Record{other, of(2, 2, 5, 4, 7, "")}, 2},
		{api.MaxStamp - 1, lsns(api.MaxStamp-1, api.MaxStamp, api.MaxStamp+1), 3}, {api.MaxStamp, lsns(api.MaxStamp, 1), 1}, {api.MaxStamp, lsns(api.MaxStamp, 0), 1},
		{0, lsns(0, 1), 2}, {-1, lsns(-1, 0, 1), 3}, {math.MaxInt64, lsns(math.MaxInt64, math.MinInt64), 1}, {math.MinInt64, lsns(math.MinInt64, math.MinInt64+1), 2}, {math.MinInt64, lsns(math.MaxInt64), 0},
		{0, []api.Record{{}}, 1}, {0, []api.Record{{}, {LSN: 1}, {LSN: 2, Epoch: 1}}, 3},
	} {
		was := slices.Clone(x.l)
		if got := record.Run(x.start, x.l...); got != x.want {
			t.Errorf("%d: Run(%d): %d, not %d", i, x.start, got, x.want)
		}
		if !slices.Equal(x.l, was) {
			t.Errorf("%d: Run changed what was handed in", i)
		}
	}
}

// P4.4: of a long log, all, or up to the one that does not follow, whichever it is.
func TestRunStopsWhereOneDoesNotFollow(t *testing.T) {
	var l []api.Record
	for n := range int64(200) {
		l = append(l, of(3, 1+n/7, 10+n, int(n%16), 1+n, ""))
	}
	if got := record.Run(10, l...); got != len(l) {
		t.Errorf("all: %d", got)
	}
	for i := range l {
		for name, change := range map[string]func(*api.Record){
			"another LSN": func(r *api.Record) { r.LSN++ }, "another node": func(r *api.Record) { r.Node++ }, "an epoch below": func(r *api.Record) { r.Epoch = -1 },
		} {
			was := l[i]
			change(&l[i])
			want := i
			if i == 0 && name == "an epoch below" {
				want = len(l)
			} else if i == 0 && name == "another node" {
				want = 1
			}
			if got := record.Run(10, l...); got != want {
				t.Errorf("%s at %d: %d, not %d", name, i, got, want)
			}
			l[i] = was
		}
		if got := record.Run(10, l[:i]...); got != i {
			t.Errorf("%d of them: %d", i, got)
		}
	}
}

// P4.1 to P4.4: the chapter's examples.
func TestExamples(t *testing.T) {
	three, four, six := of(1, 2, 3, 4, 5, "x"), of(1, 2, 4, 4, 5, "x"), of(1, 2, 6, 4, 5, "x")
	a, b := put(t, three), put(t, four)
	if s := a[0]; [6]byte{s[0], s[1], s[5], s[9], s[13], s[14]} != [6]byte{177, 20, 2, 3, 5, 'x'} {
		t.Errorf("% x", s)
	}
	is(t, a[0], a[1], three)
	refused(t, "of LSN 3, of LSN 4", a[0], b[1])
	refused(t, "noughts", api.Sector{}, api.Sector{})
	if h, e := record.TakeHead(api.Sector{}); h != (api.Head{Start: 1}) || e != api.OK {
		t.Error(h, e)
	}
	if s, e := record.PutHead(api.Head{Start: 2}); s != (api.Sector{}) || e != api.ErrArg {
		t.Error(s, e)
	}
	if h, e := record.TakeHead(api.Sector{179}); h != (api.Head{}) || e != api.ErrCorrupt {
		t.Error(h, e)
	}
	low := four
	low.Epoch = 1
	if got := [3]int{record.Run(3, three, four, six), record.Run(3, four), record.Run(3, three, low)}; got != [3]int{2, 0, 1} {
		t.Error(got)
	}
}
