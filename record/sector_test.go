package record_test

import (
	"math/rand"
	"testing"

	"millpond/api"
	"millpond/record"
)

// stamped fails unless a sector is that half of that record; its body is not asked for.
func stamped(t *testing.T, name string, s api.Sector, want api.Record, half int) {
	t.Helper()
	want.Body = api.Body{}
	if r, h, ok := record.Stamp(s); r != want || h != half || !ok {
		t.Errorf("%s: %+v, %d, %v; not %+v, %d", name, r, h, ok, want, half)
	}
}

// unstamped fails unless a sector says nothing.
func unstamped(t *testing.T, name string, s api.Sector) {
	t.Helper()
	if r, h, ok := record.Stamp(s); r != (api.Record{}) || h != 0 || ok {
		t.Errorf("%s: %+v, %d, %v", name, r, h, ok)
	}
}

// P4.2
func TestStampsOfWholeSectors(t *testing.T) {
	for _, r := range some() {
		for half, s := range put(t, r) {
			stamped(t, "a half", s, r, half)
		}
	}
	unstamped(t, "noughts", api.Sector{})
}

// P4.2: 177 and 178 are the two halves; 179 is a head's, and no other one is a record's.
func TestStampsFirstByte(t *testing.T) {
	r := filled(of(1, 2, 3, 4, 5, ""))
	for _, s := range put(t, r) {
		for c := range 256 {
			s[0] = byte(c)
			if c == 177 || c == 178 {
				stamped(t, "one of the two", s, r, c-177)
			} else {
				unstamped(t, "none of the two", s)
			}
		}
	}
}

// P4.2: a node of MaxNodes or more is none; each page of 0 to 15 may be.
func TestStampsNodeAndPage(t *testing.T) {
	r := filled(of(1, 2, 3, 4, 5, ""))
	for half, s := range put(t, r) {
		for c := range 256 {
			s[1] = byte(c)
			want := r
			want.Node, want.Page = c/16, c%16
			if want.Node < api.MaxNodes {
				stamped(t, "a node and a page", s, want, half)
			} else {
				unstamped(t, "no node", s)
			}
		}
	}
}

// P4.2: each of the three numbers at its bounds and beyond.
func TestStampsNumbers(t *testing.T) {
	r := filled(of(1, 2, 3, 4, 5, ""))
	for half, right := range put(t, r) {
		for four, n := range map[string]int64{
			"\x00\x00\x00\x01": 1, "\x00\x00\x01\x00": 256, "\x01\x02\x03\x04": 0x01020304, "\x7f\xff\xff\xfe": api.MaxStamp - 1, "\x7f\xff\xff\xff": api.MaxStamp,
			"\x00\x00\x00\x00": 0, "\x80\x00\x00\x00": 0, "\x80\x00\x00\x01": 0, "\xff\xff\xff\xff": 0,
		} {
			epoch, lsn, psn := r, r, r
			epoch.Epoch, lsn.LSN, psn.PSN = n, n, n
			for at, want := range map[int]api.Record{2: epoch, 6: lsn, 10: psn} {
				s := right
				copy(s[at:], four)
				if n > 0 {
					stamped(t, "a number", s, want, half)
				} else {
					unstamped(t, "no number", s)
				}
			}
		}
	}
}

// P4.2: the two bytes at the end are noughts; those of the body are any.
func TestStampsBodyAndEnd(t *testing.T) {
	r := filled(of(1, 2, 3, 4, 5, ""))
	for half, right := range put(t, r) {
		for at := 14; at < api.SectorSize; at++ {
			for c := range 256 {
				s := right
				s[at] = byte(c)
				if at < 62 || c == 0 {
					stamped(t, "another body", s, r, half)
				} else {
					unstamped(t, "a byte at the end", s)
				}
			}
		}
	}
}

// P4.1, P0.9: another byte at any place of one sector: of the body it is another record; anywhere else the sectors are whole no more.
func TestEachByteOfBothSectors(t *testing.T) {
	for _, r := range some() {
		right := put(t, r)
		for i := range right {
			for at := range api.SectorSize {
				for c := range 256 {
					l, want := right, r
					l[i][at] = byte(c)
					if at >= 14 && at <= 61 {
						want.Body[48*i+at-14] = byte(c)
					}
					if at >= 14 && at <= 61 || l == right {
						is(t, l[0], l[1], want)
					} else {
						refused(t, "another byte", l[0], l[1])
					}
				}
			}
		}
	}
}

// P4.1, P0.9: the same other byte at any place of both sectors: they agree, and are those of a record that may be, or refused.
func TestEachByteOfBothSectorsAtOnce(t *testing.T) {
	right := put(t, filled(of(1, 2, 3, 4, 5, "")))
	for at := range api.SectorSize {
		for c := range 256 {
			l := right
			l[0][at], l[1][at] = byte(c), byte(c)
			asByWords(t, l)
		}
	}
}

// P4.1, P0.9: sectors that agree, but on a number that no record has.
func TestBothSectorsSayAWrongNumber(t *testing.T) {
	right := put(t, filled(of(1, 2, 3, 4, 5, "")))
	for _, at := range []int{2, 6, 10} {
		for _, four := range []string{"\x00\x00\x00\x00", "\x80\x00\x00\x00", "\x80\x00\x00\x05", "\xff\xff\xff\xff"} {
			l := right
			copy(l[0][at:], four)
			copy(l[1][at:], four)
			refused(t, "a wrong number", l[0], l[1])
		}
	}
	l := right
	l[0][1], l[1][1] = 16*api.MaxNodes, 16*api.MaxNodes
	refused(t, "a wrong node", l[0], l[1])
}

// P4.1, P0.9: noughts but for one byte are not whole, wherever it stands.
func TestNoughtsButOneByte(t *testing.T) {
	for at := range api.SectorSize {
		for c := range 256 {
			var l [2]api.Sector
			l[0][at] = byte(c)
			refused(t, "a byte in noughts", l[0], l[1])
			refused(t, "a byte in noughts", l[1], l[0])
			refused(t, "a byte in both", l[0], l[0])
			unstamped(t, "a byte in noughts", l[0])
		}
	}
}

// stampByWords tells by the chapter's words what a sector says.
func stampByWords(s api.Sector) (api.Record, int, bool) {
	number := func(at int) int64 {
		return int64(s[at])*256*256*256 + int64(s[at+1])*256*256 + int64(s[at+2])*256 + int64(s[at+3])
	}
	r := api.Record{Node: int(s[1] / 16), Epoch: number(2), LSN: number(6), Page: int(s[1] % 16), PSN: number(10)}
	for _, n := range []int64{r.Epoch, r.LSN, r.PSN} {
		if n < 1 || n > 2147483647 {
			return api.Record{}, 0, false
		}
	}
	if s[0] != 177 && s[0] != 178 || r.Node > 7 || s[62] != 0 || s[63] != 0 {
		return api.Record{}, 0, false
	}
	return r, int(s[0]) - 177, true
}

// wholeByWords tells by the chapter's words whose two sectors are, if any record's.
func wholeByWords(a, b api.Sector) (api.Record, bool) {
	x, first, one := stampByWords(a)
	y, second, other := stampByWords(b)
	if !one || !other || first != 0 || second != 1 || x != y {
		return api.Record{}, false
	}
	copy(x.Body[:], string(a[14:62])+string(b[14:62]))
	return x, true
}

// asByWords fails unless two sectors are read as the chapter's words say; it tells whether they are whole.
func asByWords(t *testing.T, l [2]api.Sector) bool {
	t.Helper()
	r, whole := wholeByWords(l[0], l[1])
	if whole {
		is(t, l[0], l[1], r)
		if put(t, r) != l {
			t.Errorf("% x is read as %+v, and written otherwise", l, r)
		}
	} else {
		refused(t, "by the words", l[0], l[1])
	}
	for _, s := range l {
		if r, half, ok := stampByWords(s); ok {
			stamped(t, "by the words", s, r, half)
		} else {
			unstamped(t, "by the words", s)
		}
	}
	return whole
}

// near is a pair of sectors that are whole, or nearly so, or any bytes.
func near(r *rand.Rand) [2]api.Sector {
	var l [2]api.Sector
	switch r.Intn(8) {
	case 0: // noughts
	case 1:
		r.Read(l[0][:])
		r.Read(l[1][:])
	default:
		for i := range l {
			l[i] = byWords(some()[r.Intn(3)])[i]
		}
	}
	for range r.Intn(3) {
		places := []int{0, 1, 2, 5, 6, 9, 10, 13, 14, 61, 62, 63, r.Intn(api.SectorSize)}
		bytes := []byte{0, 1, 2, 15, 16, 127, 128, 177, 178, 179, 255, byte(r.Intn(256))}
		at, c := places[r.Intn(len(places))], bytes[r.Intn(len(bytes))]
		if half := r.Intn(3); half < 2 {
			l[half][at] = c
		} else {
			l[0][at], l[1][at] = c, c
		}
	}
	return l
}

// P4.1, P4.2, P4.5, P0.5, P0.9: whatever bytes the sectors have, they are read for what they are, or refused; what is read is written as just these bytes.
func TestAnySectors(t *testing.T) {
	r := rand.New(rand.NewSource(4))
	whole := 0
	for range 200000 {
		l := near(r)
		if asByWords(t, l) {
			whole++
		}
		if t.Failed() {
			t.Fatalf("% x", l)
		}
	}
	if whole < 1000 {
		t.Errorf("only %d were whole", whole)
	}
}
