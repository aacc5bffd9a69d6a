package page_test

import (
	"math"
	"testing"

	"millpond/api"
	"millpond/page"
)

// greatest is the last page.
const greatest = api.MaxPages - 1

// outside are numbers of no page; the last ones have a page's number in their lowest byte.
var outside = []int{-1, api.MaxPages, api.MaxPages + 1, math.MaxInt, math.MinInt, 256, 258, -254}

// unlike are PSNs of no version; the last ones have a PSN in their lowest four bytes.
var unlike = []int64{-1, math.MinInt64, api.MaxStamp + 1, math.MaxInt64, 1 << 32, 1<<32 + 5, 5 - 1<<32}

// of is a version with these bytes ahead.
func of(psn int64, s string) api.Version {
	v := api.Version{PSN: psn}
	copy(v.Body[:], s)
	return v
}

// full is a version all of whose bytes are there, each unlike its neighbours.
func full(psn int64) api.Version {
	v := api.Version{PSN: psn}
	for i := range v.Body {
		v.Body[i] = byte(i + 100)
	}
	return v
}

// some are versions at the edges and between.
func some() []api.Version {
	return []api.Version{
		{}, of(1, ""), of(1, "x"), full(1), of(5, "xyz"), full(255), full(256), of(0x01020304, "a\x00b"), full(1<<24 - 1), full(1 << 24),
		full(api.MaxStamp - 1), of(api.MaxStamp, ""), full(api.MaxStamp),
	}
}

// put are the sectors of a version that may be.
func put(t *testing.T, p int, v api.Version) [2]api.Sector {
	t.Helper()
	l, e := page.Put(p, v)
	if e != api.OK {
		t.Fatalf("Put(%d, %d): %v", p, v.PSN, e)
	}
	return l
}

// is fails unless two sectors are whole for a page, and of that version.
func is(t *testing.T, p int, a, b api.Sector, want api.Version) {
	t.Helper()
	if v, e := page.Get(p, a, b); v != want || e != api.OK || !page.Whole(p, a, b) {
		t.Errorf("Get(%d): %v, %v, Whole is %v; not %v", p, v, e, page.Whole(p, a, b), want)
	}
}

// refused fails unless two sectors are refused for a page, with this error.
func refused(t *testing.T, name string, p int, a, b api.Sector, want api.Errno) {
	t.Helper()
	if v, e := page.Get(p, a, b); v != (api.Version{}) || e != want || page.Whole(p, a, b) {
		t.Errorf("%s: Get(%d): %v, %v, Whole is %v; not %v", name, p, v, e, page.Whole(p, a, b), want)
	}
}

// byWords are a version's sectors byte by byte, as the chapter says them.
func byWords(p int, v api.Version) [2]api.Sector {
	var l [2]api.Sector
	if v.PSN == 0 {
		return l
	}
	l[0][0], l[1][0] = 161, 162
	for i := range l {
		l[i][1] = byte(p)
		l[i][2] = byte(v.PSN / (256 * 256 * 256))
		l[i][3] = byte(v.PSN / (256 * 256) % 256)
		l[i][4] = byte(v.PSN / 256 % 256)
		l[i][5] = byte(v.PSN % 256)
		for at := 6; at <= 53; at++ {
			l[i][at] = v.Body[48*i+at-6]
		}
	}
	return l
}

// P3.1: each byte of the two sectors, of each page.
func TestPutLaysEachByte(t *testing.T) {
	for p := range api.MaxPages {
		for _, v := range some() {
			if l, e := page.Put(p, v); l != byWords(p, v) || e != api.OK {
				t.Errorf("Put(%d, %d): % x, %v", p, v.PSN, l, e)
			}
		}
	}
	l := put(t, 2, of(0x01020304, "first"))
	if string(l[0][:12]) != "\xa1\x02\x01\x02\x03\x04first\x00" || string(l[1][:7]) != "\xa2\x02\x01\x02\x03\x04\x00" {
		t.Errorf("% x", l)
	}
}

// P3.1: of the PSN 0 there are noughts, as a new device has them, for each page.
func TestVersionNoughtIsNoughts(t *testing.T) {
	for p := range api.MaxPages {
		if put(t, p, api.Version{}) != [2]api.Sector{} {
			t.Errorf("the page %d: not noughts", p)
		}
		is(t, p, api.Sector{}, api.Sector{}, api.Version{})
	}
}

// P3.1: a page that may not be is ErrArg, whatever else is wrong.
func TestPagesThatMayNotBe(t *testing.T) {
	right := put(t, 2, full(5))
	for _, p := range outside {
		for _, v := range []api.Version{{}, of(5, "x"), full(api.MaxStamp), of(0, "x"), of(-1, ""), full(api.MaxStamp + 1)} {
			if l, e := page.Put(p, v); l != [2]api.Sector{} || e != api.ErrArg {
				t.Errorf("Put(%d, %d): % x, %v", p, v.PSN, l, e)
			}
		}
		said := right
		said[0][1], said[1][1] = byte(p), byte(p)
		refused(t, "whole ones", p, right[0], right[1], api.ErrArg)
		refused(t, "ones that say its lowest byte", p, said[0], said[1], api.ErrArg)
		refused(t, "noughts", p, api.Sector{}, api.Sector{}, api.ErrArg)
		refused(t, "torn ones", p, right[0], api.Sector{}, api.ErrArg)
		refused(t, "changed round", p, right[1], right[0], api.ErrArg)
	}
}

// P3.1
func TestPSNsThatMayNotBe(t *testing.T) {
	for _, p := range []int{0, 2, greatest} {
		for _, psn := range unlike {
			for _, v := range []api.Version{of(psn, ""), of(psn, "x"), full(psn)} {
				if l, e := page.Put(p, v); l != [2]api.Sector{} || e != api.ErrArg {
					t.Errorf("Put(%d, %d): % x, %v", p, psn, l, e)
				}
			}
		}
		for _, psn := range []int64{1, 2, api.MaxStamp - 1, api.MaxStamp} {
			l := put(t, p, full(psn))
			is(t, p, l[0], l[1], full(psn))
		}
	}
}

// P3.1: a body that is not noughts beside the PSN 0, whichever byte it is.
func TestBodyBesideVersionNought(t *testing.T) {
	for i := range api.BodySize {
		for _, c := range []byte{1, 'x', 255} {
			v := api.Version{}
			v.Body[i] = c
			if l, e := page.Put(0, v); l != [2]api.Sector{} || e != api.ErrArg {
				t.Errorf("Put(0, %v): % x, %v", v, l, e)
			}
		}
	}
}

// P3.4, P0.11
func TestGetOfPut(t *testing.T) {
	for p := range api.MaxPages {
		for _, v := range some() {
			l := put(t, p, v)
			is(t, p, l[0], l[1], v)
		}
	}
	for i := range api.BodySize { // no byte stands for another one
		v := full(7)
		v.Body[i] = 0
		l := put(t, 3, v)
		is(t, 3, l[0], l[1], v)
		v = of(7, "")
		v.Body[i] = 255
		l = put(t, 3, v)
		is(t, 3, l[0], l[1], v)
	}
}

// P3.1, P3.4, P0.5: the first sector of one and the second one of another, of one page or of two, are not whole; nor are two firsts, two seconds, or two changed round.
func TestTornSectorsAreNotWhole(t *testing.T) {
	for _, p := range []int{0, 7, greatest} {
		for _, o := range []int{0, 7, 8, greatest} {
			for _, v := range some() {
				for _, w := range some() {
					if v.PSN == 0 && w.PSN == 0 || v.PSN == w.PSN && p == o {
						continue
					}
					a, b := put(t, p, v), put(t, o, w)
					for _, at := range []int{p, o} {
						refused(t, "one's first, another's second", at, a[0], b[1], api.ErrCorrupt)
						refused(t, "another's first, one's second", at, b[0], a[1], api.ErrCorrupt)
						refused(t, "two firsts", at, a[0], b[0], api.ErrCorrupt)
						refused(t, "two seconds", at, a[1], b[1], api.ErrCorrupt)
						refused(t, "one's second, another's first", at, a[1], b[0], api.ErrCorrupt)
					}
				}
			}
		}
	}
	for _, v := range some()[1:] {
		a := put(t, 7, v)
		refused(t, "changed round", 7, a[1], a[0], api.ErrCorrupt)
		refused(t, "the first twice", 7, a[0], a[0], api.ErrCorrupt)
		refused(t, "the second twice", 7, a[1], a[1], api.ErrCorrupt)
	}
}

// P3.1: another page's sectors are not whole for a page, but noughts are.
func TestWholeForItsPageAlone(t *testing.T) {
	for p := range api.MaxPages {
		for _, v := range some() {
			l := put(t, p, v)
			for o := range api.MaxPages {
				if p == o || v.PSN == 0 {
					is(t, o, l[0], l[1], v)
				} else {
					refused(t, "another page's", o, l[0], l[1], api.ErrCorrupt)
				}
			}
		}
	}
}

// P3.4, P0.5: a write that is cut behind none, one or both of its sectors is the elder version, none, or the younger one; written again, it is whole.
func TestCutWrites(t *testing.T) {
	versions := some()
	for i, was := range versions {
		for _, will := range versions[i+1:] {
			if was.PSN == will.PSN {
				continue
			}
			elder, younger := put(t, greatest, was), put(t, greatest, will)
			now := elder
			is(t, greatest, now[0], now[1], was)
			now[0] = younger[0]
			refused(t, "cut", greatest, now[0], now[1], api.ErrCorrupt)
			now[1] = younger[1]
			is(t, greatest, now[0], now[1], will)
		}
	}
}

// P3.1: two halves of one PSN are those of one version, namely that which has both.
func TestHalvesOfOnePSN(t *testing.T) {
	one, other := of(5, "x"), full(5)
	a, b := put(t, 2, one), put(t, 2, other)
	want := other
	copy(want.Body[:], one.Body[:48])
	is(t, 2, a[0], b[1], want)
}

// P3.1, P0.9: another byte at any place: of the body it is another version; anywhere else the sectors are whole no more.
func TestEachByteOfBothSectors(t *testing.T) {
	for _, v := range []api.Version{of(5, "xyz"), full(1), full(api.MaxStamp)} {
		right := put(t, 2, v)
		for i := range right {
			for at := range api.SectorSize {
				for c := range 256 {
					l, want := right, v
					l[i][at] = byte(c)
					if at >= 6 && at <= 53 {
						want.Body[48*i+at-6] = byte(c)
					}
					if at >= 6 && at <= 53 || l == right {
						is(t, 2, l[0], l[1], want)
					} else {
						refused(t, "another byte", 2, l[0], l[1], api.ErrCorrupt)
					}
				}
			}
		}
	}
}

// P3.1, P0.9: noughts but for one byte are not whole, wherever it stands.
func TestNoughtsButOneByte(t *testing.T) {
	for i := range 2 {
		for at := range api.SectorSize {
			for c := 1; c < 256; c++ {
				var l [2]api.Sector
				l[i][at] = byte(c)
				refused(t, "a byte in noughts", c%api.MaxPages, l[0], l[1], api.ErrCorrupt)
			}
		}
	}
}

// P3.1, P0.9: sectors that agree, but on a PSN that no written version has.
func TestBothSectorsSayAWrongPSN(t *testing.T) {
	for _, v := range []api.Version{of(5, ""), full(5)} {
		right := put(t, 2, v)
		for _, four := range []string{"\x00\x00\x00\x00", "\x80\x00\x00\x00", "\x80\x00\x00\x05", "\xff\xff\xff\xff"} {
			l := right
			copy(l[0][2:], four)
			copy(l[1][2:], four)
			refused(t, "a wrong PSN", 2, l[0], l[1], api.ErrCorrupt)
		}
		l, last := right, v
		last.PSN = api.MaxStamp
		copy(l[0][2:], "\x7f\xff\xff\xff")
		copy(l[1][2:], "\x7f\xff\xff\xff")
		is(t, 2, l[0], l[1], last)
	}
}

// P3.1, P0.9: sectors that agree, but at whose ends there is the same byte.
func TestBothSectorsEndInBytes(t *testing.T) {
	right := put(t, 2, full(5))
	for at := 54; at < api.SectorSize; at++ {
		l := right
		l[0][at], l[1][at] = 1, 1
		refused(t, "a byte at the end", 2, l[0], l[1], api.ErrCorrupt)
	}
}

// P3.2
func TestBetterIsByPSN(t *testing.T) {
	for _, x := range []struct {
		a, b api.Version
		want bool
	}{
		{of(6, ""), of(5, ""), true}, {of(5, ""), of(6, ""), false}, {of(5, ""), of(5, ""), false},
		{of(5, "z"), of(5, "a"), false}, {of(5, "a"), of(5, "z"), false}, {of(6, "a"), of(5, "z"), true}, {of(5, "z"), of(6, "a"), false},
		{of(1, ""), api.Version{}, true}, {api.Version{}, of(1, ""), false}, {api.Version{}, api.Version{}, false},
		{of(api.MaxStamp, ""), of(api.MaxStamp-1, "x"), true}, {of(api.MaxStamp+1, ""), of(api.MaxStamp, ""), true},
		{api.Version{}, of(-1, "x"), true}, {of(-1, ""), api.Version{}, false},
		{of(math.MaxInt64, ""), of(math.MinInt64, ""), true}, {of(math.MinInt64, ""), of(math.MaxInt64, ""), false}, {of(1<<32, ""), of(5, ""), true},
	} {
		if got := page.Better(x.a, x.b); got != x.want {
			t.Errorf("Better(%d, %d): %v", x.a.PSN, x.b.PSN, got)
		}
	}
}

// P3.1, P3.2: the chapter's examples.
func TestExamples(t *testing.T) {
	five, six := put(t, 2, of(5, "x")), put(t, 2, of(6, "x"))
	for i, want := range [][4]byte{{161, 2, 5, 'x'}, {162, 2, 5, 0}} {
		s := five[i]
		if got := [4]byte{s[0], s[1], s[5], s[6]}; got != want {
			t.Errorf("the sector %d: %v", i, got)
		}
	}
	is(t, 2, five[0], five[1], of(5, "x"))
	refused(t, "of 5, of 6", 2, five[0], six[1], api.ErrCorrupt)
	refused(t, "the page 1", 1, five[0], five[1], api.ErrCorrupt)
	is(t, 0, api.Sector{}, api.Sector{}, api.Version{})
	if _, e := page.Put(0, of(0, "x")); e != api.ErrArg {
		t.Error(e)
	}
	if _, e := page.Put(16, of(1, "")); e != api.ErrArg {
		t.Error(e)
	}
}
