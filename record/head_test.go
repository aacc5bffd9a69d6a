package record_test

import (
	"math/rand"
	"testing"

	"millpond/api"
	"millpond/record"
)

// headed fails unless a sector is that head's, and the head has that sector.
func headed(t *testing.T, h api.Head, s api.Sector) {
	t.Helper()
	if got, e := record.PutHead(h); got != s || e != api.OK {
		t.Errorf("PutHead(%+v): % x, %v; not % x", h, got, e, s)
	}
	if got, e := record.TakeHead(s); got != h || e != api.OK {
		t.Errorf("TakeHead(% x): %+v, %v; not %+v", s, got, e, h)
	}
}

// headless fails unless a sector is no head's.
func headless(t *testing.T, name string, s api.Sector) {
	t.Helper()
	if h, e := record.TakeHead(s); h != (api.Head{}) || e != api.ErrCorrupt {
		t.Errorf("%s: TakeHead(% x): %+v, %v", name, s, h, e)
	}
}

// sector has these bytes ahead.
func sector(s string) api.Sector {
	var b api.Sector
	copy(b[:], s)
	return b
}

// P4.3, P4.5, P0.11: each byte of a head's sector, at the bounds and between; there and back.
func TestHeads(t *testing.T) {
	headed(t, api.Head{Start: 1}, api.Sector{})
	headed(t, api.Head{Start: 1, Epoch: 1}, sector("\xb3\x00\x00\x00\x01\x00\x00\x00\x01"))
	headed(t, api.Head{Start: 7, Epoch: 2}, sector("\xb3\x00\x00\x00\x02\x00\x00\x00\x07"))
	headed(t, api.Head{Start: 0x05060708, Epoch: 0x01020304}, sector("\xb3\x01\x02\x03\x04\x05\x06\x07\x08"))
	headed(t, api.Head{Start: 1, Epoch: api.MaxEpoch}, sector("\xb3\x7f\xff\xff\xff\x00\x00\x00\x01"))
	headed(t, api.Head{Start: api.MaxStamp, Epoch: 1}, sector("\xb3\x00\x00\x00\x01\x7f\xff\xff\xff"))
	headed(t, api.Head{Start: api.MaxStamp, Epoch: api.MaxEpoch}, sector("\xb3\x7f\xff\xff\xff\x7f\xff\xff\xff"))
	headed(t, api.Head{Start: 256, Epoch: 255}, sector("\xb3\x00\x00\x00\xff\x00\x00\x01\x00"))
}

// P4.3: a head that may not be, for its Start, its Epoch or both; beside the Epoch 0 the Start 1 alone may be.
func TestHeadsThatMayNotBe(t *testing.T) {
	wrong := []api.Head{{}, {Start: 2}, {Start: 3}, {Start: api.MaxStamp}, {Start: -1}}
	for _, n := range wrongNumbers {
		wrong = append(wrong, api.Head{Start: n, Epoch: 1}, api.Head{Start: n, Epoch: api.MaxEpoch}, api.Head{Start: n})
		if n != 0 {
			wrong = append(wrong, api.Head{Start: 1, Epoch: n}, api.Head{Start: api.MaxStamp, Epoch: n}, api.Head{Start: n, Epoch: n})
		}
	}
	for _, h := range wrong {
		if s, e := record.PutHead(h); s != (api.Sector{}) || e != api.ErrArg {
			t.Errorf("PutHead(%+v): % x, %v", h, s, e)
		}
	}
}

// P4.3: numbers that are 0 or above their bounds; the first head has the noughts alone.
func TestHeadsSectorsOfWrongNumbers(t *testing.T) {
	for _, four := range []string{"\x00\x00\x00\x00", "\x80\x00\x00\x00", "\x80\x00\x00\x01", "\xff\xff\xff\xff"} {
		headless(t, "a wrong Epoch", sector("\xb3"+four+"\x00\x00\x00\x01"))
		headless(t, "a wrong Epoch", sector("\xb3"+four+"\x00\x00\x00\x02"))
		headless(t, "a wrong Start", sector("\xb3\x00\x00\x00\x01"+four))
		headless(t, "both", sector("\xb3"+four+four))
	}
	headless(t, "the first one's numbers without its mark", sector("\x00\x00\x00\x00\x00\x00\x00\x00\x01"))
	headless(t, "the mark alone", sector("\xb3"))
}

// headByWords tells by the chapter's words whose head a sector is.
func headByWords(s api.Sector) (api.Head, bool) {
	if s == (api.Sector{}) {
		return api.Head{Start: 1}, true
	}
	number := func(at int) int64 {
		return int64(s[at])*256*256*256 + int64(s[at+1])*256*256 + int64(s[at+2])*256 + int64(s[at+3])
	}
	h := api.Head{Epoch: number(1), Start: number(5)}
	ok := s[0] == 179 && h.Epoch >= 1 && h.Epoch <= 2147483647 && h.Start >= 1 && h.Start <= 2147483647
	for _, c := range s[9:] {
		ok = ok && c == 0
	}
	return h, ok
}

// takenByWords fails unless a sector is read as the chapter's words say; it tells whether it is a head's.
func takenByWords(t *testing.T, s api.Sector) bool {
	t.Helper()
	h, ok := headByWords(s)
	if ok {
		headed(t, h, s)
	} else {
		headless(t, "by the words", s)
	}
	return ok
}

// P4.3, P0.9: another byte at any place, those behind too, in heads and in noughts; a head's sector is no record's.
func TestEachByteOfAHeadsSector(t *testing.T) {
	for _, h := range []api.Head{{Start: 1}, {Start: 1, Epoch: 1}, {Start: 7, Epoch: 2}, {Start: api.MaxStamp, Epoch: api.MaxEpoch}} {
		right, e := record.PutHead(h)
		if e != api.OK {
			t.Fatal(h, e)
		}
		unstamped(t, "a head's", right)
		refused(t, "a head's", right, right)
		for at := range api.SectorSize {
			for c := range 256 {
				s := right
				s[at] = byte(c)
				if is := takenByWords(t, s); is && at >= 9 && c != 0 {
					t.Errorf("% x is a head's", s)
				}
			}
		}
	}
}

// P4.3, P4.5, P0.9: whatever bytes the sector has, it is read for what it is, or refused.
func TestAnyHeadsSector(t *testing.T) {
	r := rand.New(rand.NewSource(5))
	heads := 0
	for range 100000 {
		var s api.Sector
		if r.Intn(8) > 0 {
			r.Read(s[:1+r.Intn(9)])
			s[0] = byte(178 + r.Intn(3))
		}
		if r.Intn(4) == 0 {
			s[r.Intn(len(s))] = byte(r.Intn(256))
		}
		if takenByWords(t, s) {
			heads++
		}
		if t.Failed() {
			t.FailNow()
		}
	}
	if heads < 1000 {
		t.Errorf("only %d were heads'", heads)
	}
}
