package lease_test

import (
	"encoding/binary"
	"math"
	"math/rand"
	"testing"

	"millpond/api"
	"millpond/lease"
)

// wrongEpochs are no lease's Epoch; wrongNumbers no Beat and no Ready. Some have what may be in their lowest four bytes.
var (
	wrongEpochs  = []int64{-1, -2, math.MinInt64, math.MinInt64 + 1, api.MaxEpoch + 1, api.MaxEpoch + 2, -api.MaxEpoch, 1 << 32, 1<<32 + 1, 1<<40 + 2, api.MaxNumber, api.MaxNumber + 1, math.MaxInt64}
	wrongNumbers = []int64{-1, -2, math.MinInt64, math.MinInt64 + 1, api.MaxNumber + 1, api.MaxNumber + 2, -api.MaxNumber, math.MaxInt64 - 1, math.MaxInt64}
)

// epochs and numbers are at the bounds and between.
var (
	epochs  = []int64{0, 1, 2, 255, 256, 0x01020304, 1 << 24, api.MaxEpoch - 1, api.MaxEpoch}
	numbers = []int64{0, 1, 2, 255, 256, 300, api.MaxEpoch, api.MaxEpoch + 1, 1 << 32, 0x0102030405060708, 1 << 61, api.MaxNumber - 1, api.MaxNumber}
)

// some are leases that may be: each part at its bounds and between, beside each other one's.
func some() []api.Lease {
	var l []api.Lease
	for _, epoch := range epochs {
		for _, beat := range numbers {
			for _, ready := range numbers {
				l = append(l, api.Lease{Epoch: epoch, Beat: beat, Ready: ready})
			}
		}
	}
	return l
}

// wrong are leases that may not be, most of them for one part alone.
func wrong() []api.Lease {
	var l []api.Lease
	for _, right := range []api.Lease{{}, {Epoch: 1, Beat: 1, Ready: 1}, {Epoch: 2, Beat: 300, Ready: 5}, {Epoch: api.MaxEpoch, Beat: api.MaxNumber, Ready: api.MaxNumber}} {
		for _, n := range wrongEpochs {
			one := right
			one.Epoch = n
			l = append(l, one)
		}
		for _, n := range wrongNumbers {
			one, other := right, right
			one.Beat, other.Ready = n, n
			l = append(l, one, other)
		}
	}
	return append(l, api.Lease{Epoch: -1, Beat: -1, Ready: -1}, api.Lease{Epoch: math.MaxInt64, Beat: math.MaxInt64, Ready: math.MaxInt64})
}

// mayByWords tells by the chapter's words whether a lease may be.
func mayByWords(l api.Lease) bool {
	return 0 <= l.Epoch && l.Epoch <= 2147483647 && 0 <= l.Beat && l.Beat <= 4611686018427387904 && 0 <= l.Ready && l.Ready <= 4611686018427387904
}

// lies fails unless a sector is that lease's, and the lease has that sector.
func lies(t *testing.T, l api.Lease, s api.Sector) {
	t.Helper()
	if got, e := lease.Put(l); got != s || e != api.OK {
		t.Errorf("Put(%+v): % x, %v; not % x", l, got, e, s)
	}
	if got, e := lease.Get(s); got != l || e != api.OK {
		t.Errorf("Get(% x): %+v, %v; not %+v", s, got, e, l)
	}
}

// none fails unless a sector is no lease's.
func none(t *testing.T, name string, s api.Sector) {
	t.Helper()
	if l, e := lease.Get(s); l != (api.Lease{}) || e != api.ErrCorrupt {
		t.Errorf("%s: Get(% x): %+v, %v", name, s, l, e)
	}
}

// sector has these bytes ahead.
func sector(parts ...string) api.Sector {
	var s api.Sector
	at := 0
	for _, p := range parts {
		at += copy(s[at:], p)
	}
	return s
}

const (
	no4 = "\x00\x00\x00\x00"
	no8 = no4 + no4
)

// P10.1, P10.5, P0.11: each byte of a lease's sector, at the bounds and between; there and back.
func TestSectors(t *testing.T) {
	lies(t, api.Lease{}, api.Sector{})
	lies(t, api.Lease{Epoch: 1}, sector("\xd1", "\x00\x00\x00\x01"))
	lies(t, api.Lease{Beat: 1}, sector("\xd1", no4, "\x00\x00\x00\x00\x00\x00\x00\x01"))
	lies(t, api.Lease{Ready: 1}, sector("\xd1", no4, no8, "\x00\x00\x00\x00\x00\x00\x00\x01"))
	lies(t, api.Lease{Epoch: 2, Beat: 300, Ready: 5}, sector("\xd1", "\x00\x00\x00\x02", "\x00\x00\x00\x00\x00\x00\x01\x2c", "\x00\x00\x00\x00\x00\x00\x00\x05"))
	lies(t, api.Lease{Epoch: 0x01020304, Beat: 0x05060708090a0b0c, Ready: 0x0d0e0f1011121314}, sector("\xd1\x01\x02\x03\x04\x05\x06\x07\x08\x09\x0a\x0b\x0c\x0d\x0e\x0f\x10\x11\x12\x13\x14"))
	lies(t, api.Lease{Epoch: api.MaxEpoch}, sector("\xd1", "\x7f\xff\xff\xff"))
	lies(t, api.Lease{Beat: api.MaxNumber}, sector("\xd1", no4, "\x40\x00\x00\x00\x00\x00\x00\x00"))
	lies(t, api.Lease{Ready: api.MaxNumber}, sector("\xd1", no4, no8, "\x40\x00\x00\x00\x00\x00\x00\x00"))
	lies(t, api.Lease{Epoch: api.MaxEpoch, Beat: api.MaxNumber, Ready: api.MaxNumber - 1}, sector("\xd1", "\x7f\xff\xff\xff", "\x40\x00\x00\x00\x00\x00\x00\x00", "\x3f\xff\xff\xff\xff\xff\xff\xff"))
}

// P10.1: the chapter's examples of sectors.
func TestExamplesOfSectors(t *testing.T) {
	lies(t, api.Lease{}, api.Sector{})
	none(t, "the mark and noughts", api.Sector{209})
}

// P10.1: Put of a lease of which a part may not be.
func TestPutOfWrongLeases(t *testing.T) {
	for _, l := range wrong() {
		if s, e := lease.Put(l); s != (api.Sector{}) || e != api.ErrArg {
			t.Errorf("Put(%+v): % x, %v", l, s, e)
		}
	}
}

// P10.1: sectors in a lease's form of parts that may not be, of no mark, of another one.
func TestSectorsOfWrongLeases(t *testing.T) {
	one := "\x00\x00\x00\x00\x00\x00\x00\x01"
	for _, four := range []string{"\x80\x00\x00\x00", "\x80\x00\x00\x01", "\xff\xff\xff\xff"} {
		none(t, "a wrong epoch", sector("\xd1", four))
		none(t, "a wrong epoch", sector("\xd1", four, one, one))
	}
	for _, eight := range []string{
		"\x40\x00\x00\x00\x00\x00\x00\x01", "\x40\x00\x00\x01\x00\x00\x00\x00", "\x41\x00\x00\x00\x00\x00\x00\x00", "\x7f\xff\xff\xff\xff\xff\xff\xff",
		"\x80\x00\x00\x00\x00\x00\x00\x00", "\x80\x00\x00\x00\x00\x00\x00\x01", "\xff\xff\xff\xff\xff\xff\xff\xff",
	} {
		none(t, "a wrong beat", sector("\xd1", no4, eight))
		none(t, "a wrong beat", sector("\xd1", "\x00\x00\x00\x01", eight, one))
		none(t, "a wrong number of a view", sector("\xd1", no4, no8, eight))
		none(t, "a wrong number of a view", sector("\xd1", "\x00\x00\x00\x01", one, eight))
	}
	for _, mark := range []string{"\x00", "\x01", "\x2e", "\xc1", "\xd0", "\xd2", "\xff"} {
		none(t, "another mark", sector(mark, "\x00\x00\x00\x01", one, one))
		none(t, "another mark", sector(mark, no4, no8, one))
	}
}

// leaseByWords tells by the chapter's words whose sector this is.
func leaseByWords(s api.Sector) (api.Lease, bool) {
	if s == (api.Sector{}) {
		return api.Lease{}, true
	}
	l := api.Lease{Epoch: int64(binary.BigEndian.Uint32(s[1:])), Beat: int64(binary.BigEndian.Uint64(s[5:])), Ready: int64(binary.BigEndian.Uint64(s[13:]))}
	behind := string(s[21:]) == string(make([]byte, 43))
	return l, s[0] == 209 && behind && l != (api.Lease{}) && mayByWords(l)
}

// readByWords fails unless a sector is read as the chapter's words say; it tells whether it is a lease's.
func readByWords(t *testing.T, s api.Sector) bool {
	t.Helper()
	l, ok := leaseByWords(s)
	if ok {
		lies(t, l, s)
	} else {
		none(t, "by the words", s)
	}
	return ok
}

// few are leases whose sectors are changed byte by byte.
var few = []api.Lease{
	{}, {Epoch: 1}, {Beat: 1}, {Ready: 1}, {Epoch: 2, Beat: 300, Ready: 5}, {Epoch: 256}, {Beat: 1 << 56}, {Ready: 1 << 56}, {Epoch: api.MaxEpoch, Beat: api.MaxNumber, Ready: api.MaxNumber},
	{Epoch: 0x01020304, Beat: 0x05060708090a0b0c, Ready: 0x0d0e0f1011121314}, {Epoch: api.MaxEpoch - 1, Beat: api.MaxNumber - 1, Ready: api.MaxNumber - 1},
}

// P10.1, P10.5, P0.9: another byte at any place, those behind the last number too, in leases' sectors and in noughts.
func TestEachByteOfASector(t *testing.T) {
	for _, l := range few {
		right, e := lease.Put(l)
		if e != api.OK {
			t.Fatal(l, e)
		}
		for at := range api.SectorSize {
			for c := range 256 {
				s := right
				s[at] = byte(c)
				is := readByWords(t, s)
				if (at == 0 || at >= 21 || l == api.Lease{}) && is != (s == right) {
					t.Errorf("% x with %d at %d: %v", right, c, at, is)
				}
			}
		}
	}
}

// P10.1, P10.5, P0.9, P0.11: whatever bytes a sector has, it is read for what it is, or refused; what is read is written as just these bytes.
func TestAnySectors(t *testing.T) {
	r := rand.New(rand.NewSource(101))
	var leases, others int
	for range 200000 {
		var s api.Sector
		switch r.Intn(8) {
		case 0:
			r.Read(s[:])
			s[0] = 209
		case 1:
			r.Read(s[:r.Intn(api.SectorSize)])
		case 2:
			r.Read(s[:21])
			s[0] = 209
			s[1], s[5], s[13] = s[1]&0x7f, s[5]&0x3f, s[13]&0x3f
		default:
			s, _ = lease.Put(few[r.Intn(len(few))])
		}
		for range r.Intn(4) {
			places := []int{0, 0, 1, 4, 5, 12, 13, 20, 21, 22, 63, r.Intn(api.SectorSize)}
			bytes := []byte{0, 1, 2, 63, 64, 65, 127, 128, 209, 255, byte(r.Intn(256))}
			s[places[r.Intn(len(places))]] = bytes[r.Intn(len(bytes))]
		}
		if readByWords(t, s) {
			leases++
		} else {
			others++
		}
		if t.Failed() {
			t.Fatalf("% x", s)
		}
	}
	if leases < 10000 || others < 10000 {
		t.Errorf("%d leases' sectors, %d others", leases, others)
	}
}

// P10.1, P10.5, P0.11: Get of Put is the lease, of any that may be; no two have one sector.
func TestGetOfPut(t *testing.T) {
	r := rand.New(rand.NewSource(102))
	all := some()
	for range 20000 {
		all = append(all, api.Lease{Epoch: r.Int63n(api.MaxEpoch + 1), Beat: r.Int63n(api.MaxNumber + 1), Ready: r.Int63n(api.MaxNumber + 1)})
	}
	whose := map[api.Sector]api.Lease{}
	for _, l := range all {
		s, e := lease.Put(l)
		if e != api.OK {
			t.Fatalf("Put(%+v): %v", l, e)
		}
		lies(t, l, s)
		if other, there := whose[s]; there && other != l {
			t.Fatalf("%+v and %+v have one sector", l, other)
		}
		whose[s] = l
	}
}
