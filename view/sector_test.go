package view_test

import (
	"encoding/binary"
	"math/rand"
	"testing"

	"millpond/api"
	"millpond/view"
)

// lies fails unless a sector is that view's, and the view has that sector.
func lies(t *testing.T, v api.View, s api.Sector) {
	t.Helper()
	if got, e := view.Put(v); got != s || e != api.OK {
		t.Errorf("Put(%+v): % x, %v; not % x", v, got, e, s)
	}
	if got, e := view.Get(s); got != v || e != api.OK {
		t.Errorf("Get(% x): %+v, %v; not %+v", s, got, e, v)
	}
}

// none fails unless a sector is no view's.
func none(t *testing.T, name string, s api.Sector) {
	t.Helper()
	v, e := view.Get(s)
	refused(t, name, v, e, api.ErrCorrupt)
}

// sector has these bytes ahead.
func sector(parts ...string) api.Sector {
	var s api.Sector
	at := 0
	for _, p := range parts {
		at += copy(s[at:], p)
	}
	return s
}

// P9.1, P9.4, P0.11: each byte of a view's sector, at the bounds and between; there and back.
func TestSectors(t *testing.T) {
	const no, eight = "\x00\x00\x00\x00", "\x00\x00\x00\x00\x00\x00\x00\x00"
	lies(t, first, api.Sector{})
	lies(t, of(1, false, 0, 0, 1), sector("\xc1\x00\x00\x01", "\x00\x00\x00\x00\x00\x00\x00\x01", "\x00\x00\x00\x01"))
	lies(t, of(1, true, 0, 0, 1), sector("\xc1\x01\x00\x01", "\x00\x00\x00\x00\x00\x00\x00\x01", "\x00\x00\x00\x01"))
	lies(t, of(2, false, 0, 0, 3, 2, 1), sector("\xc1\x00\x00\x05", "\x00\x00\x00\x00\x00\x00\x00\x02", "\x00\x00\x00\x03", no, "\x00\x00\x00\x01"))
	lies(t, of(0x0102030405060708, true, 3, 3, 0x0a0b0c0d), sector("\xc1\x01\x03\x08", "\x01\x02\x03\x04\x05\x06\x07\x08", no, no, no, "\x0a\x0b\x0c\x0d"))
	lies(t, of(api.MaxNumber, false, 7, 7, api.MaxEpoch), sector("\xc1\x00\x07\x80", "\x40\x00\x00\x00\x00\x00\x00\x00", no, eight, eight, eight, "\x7f\xff\xff\xff"))
	lies(t, of(api.MaxNumber-1, true, 6, 0, 255, 6, 256), sector("\xc1\x01\x06\x41", "\x3f\xff\xff\xff\xff\xff\xff\xff", "\x00\x00\x00\xff", no, eight, eight, "\x00\x00\x01\x00"))
	lies(t, full(6, true), sector("\xc1\x01\x05\xff", "\x00\x00\x00\x00\x00\x00\x00\x06",
		"\x00\x00\x00\x01", "\x00\x00\x00\x09", "\x00\x00\x01\x00", "\x00\x01\x2f\xd1", "\x00\x00\x00\x04", "\x7f\xff\xff\xff", "\x00\x00\x00\x03", "\x7f\xff\xff\xfe"))
	for node := range api.MaxNodes { // a node's own bit and bytes
		s := sector("\xc1\x00", "\x00\x00", "\x00\x00\x00\x00\x00\x00\x00\x01")
		s[2], s[3] = byte(node), 1<<node
		copy(s[12+4*node:], "\x01\x02\x03\x04")
		lies(t, of(1, false, node, int64(node), 0x01020304), s)
	}
}

// P9.1: Put of a view that may not be.
func TestPutOfWrongViews(t *testing.T) {
	for _, v := range wrong() {
		if s, e := view.Put(v); s != (api.Sector{}) || e != api.ErrArg {
			t.Errorf("Put(%+v): % x, %v", v, s, e)
		}
	}
}

// P9.1: sectors that say a view that may not be, in the form of one.
func TestSectorsOfWrongViews(t *testing.T) {
	one := string([]byte{0, 0, 0, 0, 0, 0, 0, 1})
	none(t, "the first one with a mark", sector("\xc1\x01"))
	none(t, "the mark alone", sector("\xc1"))
	none(t, "nobody is in", sector("\xc1\x01\x00\x00", one))
	none(t, "the founder is not", sector("\xc1\x01\x01\x01", one, "\x00\x00\x00\x01"))
	none(t, "the founder is no node", sector("\xc1\x01\x08\xff", one))
	none(t, "a member without an epoch", sector("\xc1\x01\x00\x03", one, "\x00\x00\x00\x01"))
	none(t, "an epoch of no member", sector("\xc1\x01\x00\x01", one, "\x00\x00\x00\x01", "\x00\x00\x00\x01"))
	for _, four := range []string{"\x00\x00\x00\x00", "\x80\x00\x00\x00", "\x80\x00\x00\x01", "\xff\xff\xff\xff"} {
		none(t, "a wrong epoch", sector("\xc1\x01\x00\x01", one, four))
	}
	for _, eight := range []string{
		"\x00\x00\x00\x00\x00\x00\x00\x00", "\x40\x00\x00\x00\x00\x00\x00\x01", "\x40\x00\x00\x01\x00\x00\x00\x00", "\x7f\xff\xff\xff\xff\xff\xff\xff",
		"\x80\x00\x00\x00\x00\x00\x00\x00", "\x80\x00\x00\x00\x00\x00\x00\x01", "\xff\xff\xff\xff\xff\xff\xff\xff",
	} {
		none(t, "a wrong number", sector("\xc1\x01\x00\x01", eight, "\x00\x00\x00\x01"))
		none(t, "a wrong number", sector("\xc1\x00\x00\x01", eight, "\x00\x00\x00\x01"))
		none(t, "a wrong number of nobody", sector("\xc1\x01\x00\x00", eight))
	}
}

// viewByWords tells by the chapter's words whose sector this is.
func viewByWords(s api.Sector) (api.View, bool) {
	if s == (api.Sector{}) {
		return first, true
	}
	ok := s[0] == 193 && s[1] <= 1 && string(s[44:]) == string(make([]byte, 20)) && s[4] <= 64
	v := api.View{Number: int64(binary.BigEndian.Uint64(s[4:])), Open: s[1] == 1, Founder: int(s[2])}
	for node, bit := range []byte{1, 2, 4, 8, 16, 32, 64, 128} {
		epoch := binary.BigEndian.Uint32(s[12+4*node:])
		v.Members[node] = api.Member{In: s[3]&bit != 0, Epoch: int64(epoch)}
	}
	return v, ok && v.Number > 0 && mayByWords(v)
}

// readByWords fails unless a sector is read as the chapter's words say; it tells whether it is a view's.
func readByWords(t *testing.T, s api.Sector) bool {
	t.Helper()
	v, ok := viewByWords(s)
	if ok {
		lies(t, v, s)
	} else {
		none(t, "by the words", s)
	}
	return ok
}

// P9.1, P9.4, P0.9: another byte at any place, those behind too, in views' sectors and in noughts.
func TestEachByteOfASector(t *testing.T) {
	for _, v := range some() {
		right, e := view.Put(v)
		if e != api.OK {
			t.Fatal(v, e)
		}
		for at := range api.SectorSize {
			for c := range 256 {
				s := right
				s[at] = byte(c)
				is := readByWords(t, s)
				if v == first && is && s != right {
					t.Errorf("% x is taken for a view's", s)
				}
				if at >= 44 && is != (c == 0) {
					t.Errorf("the byte %d is %d: %v", at, c, is)
				}
			}
		}
	}
}

// P9.1, P9.4, P0.9, P0.11: whatever bytes a sector has, it is read for what it is, or refused; what is read is written as just these bytes.
func TestAnySectors(t *testing.T) {
	r := rand.New(rand.NewSource(92))
	var views, others int
	for range 200000 {
		var s api.Sector
		switch r.Intn(8) {
		case 0:
			r.Read(s[:])
			s[0] = 193
		case 1:
			r.Read(s[:r.Intn(api.SectorSize)])
		default:
			s, _ = view.Put(rights[r.Intn(len(rights))])
		}
		for range r.Intn(4) {
			places := []int{0, 1, 2, 3, 3, 4, 11, 12, 15, 16, 19, 40, 43, 44, 63, r.Intn(api.SectorSize)}
			bytes := []byte{0, 1, 2, 3, 7, 8, 64, 127, 128, 193, 255, byte(r.Intn(256))}
			s[places[r.Intn(len(places))]] = bytes[r.Intn(len(bytes))]
		}
		if readByWords(t, s) {
			views++
		} else {
			others++
		}
		if t.Failed() {
			t.Fatalf("% x", s)
		}
	}
	if views < 10000 || others < 10000 {
		t.Errorf("%d views' sectors, %d others", views, others)
	}
}

// P9.4, P0.11: Get of Put is the view, of any that may be; no two have one sector.
func TestGetOfPut(t *testing.T) {
	r := rand.New(rand.NewSource(93))
	whose := map[api.Sector]api.View{}
	for range 50000 {
		v := near(r)
		s, e := view.Put(v)
		if !mayByWords(v) {
			if s != (api.Sector{}) || e != api.ErrArg {
				t.Fatalf("Put(%+v): % x, %v", v, s, e)
			}
			continue
		}
		lies(t, v, s)
		if other, there := whose[s]; there && other != v {
			t.Fatalf("%+v and %+v have one sector", v, other)
		}
		whose[s] = v
	}
	if len(whose) < 1000 {
		t.Errorf("only %d views", len(whose))
	}
}
