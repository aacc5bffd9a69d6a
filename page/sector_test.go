package page_test

import (
	"math/rand"
	"testing"

	"millpond/api"
	"millpond/page"
)

// stamped fails unless a sector says that stamp.
func stamped(t *testing.T, name string, s api.Sector, want api.Stamp) {
	t.Helper()
	if got, ok := page.Stamp(s); got != want || !ok {
		t.Errorf("%s: %+v, %v; not %+v", name, got, ok, want)
	}
}

// unstamped fails unless a sector says nothing.
func unstamped(t *testing.T, name string, s api.Sector) {
	t.Helper()
	if got, ok := page.Stamp(s); got != (api.Stamp{}) || ok {
		t.Errorf("%s: %+v, %v", name, got, ok)
	}
}

// P3.2, P3.4: whole sectors' stamps are of one page and PSN, each of its half; noughts have none.
func TestStampsOfWholeSectors(t *testing.T) {
	for p := range api.MaxPages {
		for _, v := range some() {
			for half, s := range put(t, p, v) {
				if v.PSN == 0 {
					unstamped(t, "noughts", s)
				} else {
					stamped(t, "a half", s, api.Stamp{Page: p, Half: half, PSN: v.PSN})
				}
			}
		}
	}
}

// P3.2
func TestStampsFirstByte(t *testing.T) {
	for _, s := range put(t, 2, full(5)) {
		for c := range 256 {
			s[0] = byte(c)
			if c == 161 || c == 162 {
				stamped(t, "one of the two", s, api.Stamp{Page: 2, Half: c - 161, PSN: 5})
			} else {
				unstamped(t, "none of the two", s)
			}
		}
	}
}

// P3.2
func TestStampsPage(t *testing.T) {
	for half, s := range put(t, 2, full(5)) {
		for c := range 256 {
			s[1] = byte(c)
			if c < api.MaxPages {
				stamped(t, "a page", s, api.Stamp{Page: c, Half: half, PSN: 5})
			} else {
				unstamped(t, "no page", s)
			}
		}
	}
}

// P3.2
func TestStampsPSN(t *testing.T) {
	for half, s := range put(t, 2, full(5)) {
		for four, want := range map[string]int64{
			"\x00\x00\x00\x01": 1, "\x00\x00\x01\x00": 256, "\x01\x02\x03\x04": 0x01020304, "\x7f\xff\xff\xfe": api.MaxStamp - 1, "\x7f\xff\xff\xff": api.MaxStamp,
			"\x00\x00\x00\x00": 0, "\x80\x00\x00\x00": 0, "\x80\x00\x00\x01": 0, "\xff\xff\xff\xff": 0,
		} {
			copy(s[2:], four)
			if want > 0 {
				stamped(t, "a PSN", s, api.Stamp{Page: 2, Half: half, PSN: want})
			} else {
				unstamped(t, "no PSN", s)
			}
		}
	}
}

// P3.2: the ten bytes at the end are noughts; those of the body are any.
func TestStampsBodyAndEnd(t *testing.T) {
	for half, right := range put(t, 2, full(5)) {
		for at := 6; at < api.SectorSize; at++ {
			for c := range 256 {
				s := right
				s[at] = byte(c)
				if at < 54 || c == 0 {
					stamped(t, "another body", s, api.Stamp{Page: 2, Half: half, PSN: 5})
				} else {
					unstamped(t, "a byte at the end", s)
				}
			}
		}
	}
	unstamped(t, "noughts", api.Sector{})
}

// wholeByWords tells by the chapter's words whose two sectors are, if any version's.
func wholeByWords(p int, a, b api.Sector) (api.Version, bool) {
	if a == (api.Sector{}) && b == (api.Sector{}) {
		return api.Version{}, true
	}
	x, one := stampByWords(a)
	y, other := stampByWords(b)
	if !one || !other || x.Half != 0 || y.Half != 1 || x.Page != p || y.Page != p || x.PSN != y.PSN {
		return api.Version{}, false
	}
	v := api.Version{PSN: x.PSN}
	copy(v.Body[:], string(a[6:54])+string(b[6:54]))
	return v, true
}

// stampByWords tells by the chapter's words what a sector says.
func stampByWords(s api.Sector) (api.Stamp, bool) {
	n := int64(s[2])*256*256*256 + int64(s[3])*256*256 + int64(s[4])*256 + int64(s[5])
	if s[0] != 161 && s[0] != 162 || s[1] >= 16 || n == 0 || s[2] > 127 || string(s[54:]) != "\x00\x00\x00\x00\x00\x00\x00\x00\x00\x00" {
		return api.Stamp{}, false
	}
	return api.Stamp{Page: int(s[1]), Half: int(s[0]) - 161, PSN: n}, true
}

// near is a pair of sectors that are whole, or nearly so, or any bytes.
func near(r *rand.Rand) [2]api.Sector {
	var l [2]api.Sector
	switch r.Intn(8) {
	case 0: // noughts
	case 1:
		r.Read(l[0][:])
		r.Read(l[1][:])
	default:
		for i := range l {
			other := some()[1+r.Intn(3)]
			l[i] = byWords(r.Intn(3), other)[i]
		}
	}
	for range r.Intn(3) {
		places := []int{0, 1, 2, 3, 4, 5, 6, 53, 54, 63, r.Intn(api.SectorSize)}
		bytes := []byte{0, 1, 2, 15, 16, 127, 128, 161, 162, 255, byte(r.Intn(256))}
		at, c := places[r.Intn(len(places))], bytes[r.Intn(len(bytes))]
		if half := r.Intn(3); half < 2 {
			l[half][at] = c
		} else {
			l[0][at], l[1][at] = c, c
		}
	}
	return l
}

// P3.1, P3.2, P3.4, P0.5, P0.9: whatever bytes the sectors have, they are read for what they are, or refused; what is read is written as just these bytes.
func TestAnySectors(t *testing.T) {
	r := rand.New(rand.NewSource(3))
	whole := 0
	for range 200000 {
		p, l := r.Intn(3), near(r)
		v, ok := wholeByWords(p, l[0], l[1])
		if ok {
			whole++
			is(t, p, l[0], l[1], v)
			if put(t, p, v) != l {
				t.Errorf("% x is read as %d, and written otherwise", l, v.PSN)
			}
		} else {
			refused(t, "any bytes", p, l[0], l[1], api.ErrCorrupt)
		}
		for _, s := range l {
			if x, ok := stampByWords(s); ok {
				stamped(t, "any bytes", s, x)
			} else {
				unstamped(t, "any bytes", s)
			}
		}
		if t.Failed() {
			t.Fatalf("% x for the page %d", l, p)
		}
	}
	if whole < 1000 {
		t.Errorf("only %d were whole", whole)
	}
}
