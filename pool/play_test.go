package pool_test

import (
	"math/rand"
	"slices"
	"testing"

	"millpond/api"
	"millpond/pool"
)

// slot is a place, as the chapter's words have it.
type slot struct {
	taken, used bool
	frame       api.Frame
	pins        int
}

// plain is a pool by the chapter's words alone: no more than a list of places, and a hand.
type plain struct {
	slots []slot
	hand  int
}

func (m *plain) at(page int) *slot {
	for i := range m.slots {
		if s := &m.slots[i]; s.taken && s.frame.Page == page {
			return s
		}
	}
	return nil
}

func (m *plain) set(f api.Frame) api.Errno {
	if s := m.at(f.Page); s != nil {
		s.frame, s.used = f, true
		return api.OK
	}
	for i, s := range m.slots {
		if !s.taken {
			m.slots[i] = slot{true, true, f, 0}
			return api.OK
		}
	}
	return api.ErrFull
}

func (m *plain) victim() (int, bool) {
	if !slices.ContainsFunc(m.slots, func(s slot) bool { return s.taken && s.pins == 0 }) {
		return 0, false
	}
	for {
		s := &m.slots[m.hand]
		m.hand = (m.hand + 1) % len(m.slots)
		if s.taken && s.pins == 0 && !s.used {
			return s.frame.Page, true
		}
		if s.taken && s.pins == 0 {
			s.used = false
		}
	}
}

func (m *plain) copy() *plain { return &plain{slices.Clone(m.slots), m.hand} }

func (m *plain) same(o *plain) bool { return m.hand == o.hand && slices.Equal(m.slots, o.slots) }

// frames is all of them, rising.
func (m *plain) frames() []api.Frame {
	var l []api.Frame
	for page := range api.MaxPages {
		if s := m.at(page); s != nil {
			l = append(l, s.frame)
		}
	}
	return l
}

// both is a pool, and one by the words.
type both struct {
	p *pool.Pool
	m *plain
}

func (b both) copy() both { return both{b.p.Copy(), b.m.copy()} }

// asked does any call with both, and fails unless they answer the same.
func (b both) asked(t *testing.T, r *rand.Rand, pages int) {
	t.Helper()
	page := r.Intn(pages)
	s := b.m.at(page)
	none := api.OK
	var f api.Frame
	if s == nil {
		none = api.ErrNone
	} else {
		f = s.frame
	}
	switch call := r.Intn(16); {
	case call < 4:
		f = rich(page, r.Intn(9))
		if got, want := b.p.Set(f), b.m.set(f); got != want {
			t.Fatalf("Set(%d): %v, not %v", page, got, want)
		}
	case call < 6:
		if got, e := b.p.Get(page); got != f || e != none {
			t.Fatalf("Get(%d): %+v, %v", page, got, e)
		}
		if s != nil {
			s.used = true
		}
	case call < 7:
		if got, e := b.p.Drop(page); got != f || e != none {
			t.Fatalf("Drop(%d): %+v, %v", page, got, e)
		}
		if s != nil {
			*s = slot{}
		}
	case call < 9:
		if e := b.p.Pin(page); e != none {
			t.Fatalf("Pin(%d): %v", page, e)
		}
		if s != nil {
			s.pins++
		}
	case call < 12:
		if s != nil && s.pins == 0 {
			none = api.ErrNone
		}
		if e := b.p.Unpin(page); e != none {
			t.Fatalf("Unpin(%d): %v", page, e)
		}
		if none == api.OK {
			s.pins--
		}
	case call < 15 || r.Intn(20) > 0:
		got, is := b.p.Victim()
		if want, there := b.m.victim(); got != want || is != there {
			t.Fatalf("Victim: %d, %v, not %d, %v", got, is, want, there)
		}
	default:
		if got, want := b.p.Clear(), len(b.m.frames()); got != want {
			t.Fatalf("Clear: %d, not %d", got, want)
		}
		*b.m = plain{make([]slot, len(b.m.slots)), 0}
	}
}

// says fails unless both say the same of all pages.
func (b both) says(t *testing.T) {
	t.Helper()
	frames := b.m.frames()
	has(t, b.p, len(b.m.slots)-len(frames), frames...)
	for page := range api.MaxPages {
		want := 0
		if s := b.m.at(page); s != nil {
			want = s.pins
		}
		if got := b.p.Pins(page); got != want {
			t.Fatalf("Pins(%d): %d, not %d", page, got, want)
		}
	}
}

// P15.1, P15.2, P15.3, P15.4: any calls, held against the chapter's words; copies go on apart, and are the same just when the words say so.
func TestAnyCalls(t *testing.T) {
	r := rand.New(rand.NewSource(155))
	for range 400 {
		places, pages := 1+r.Intn(api.MaxFrames), 1+r.Intn(api.MaxPages)
		b := both{made(t, places), &plain{slots: make([]slot, places)}}
		kept := []both{b.copy()}
		for range 80 {
			b.asked(t, r, pages)
			b.says(t)
			if r.Intn(10) == 0 {
				kept = append(kept, b.copy())
			}
			one := kept[r.Intn(len(kept))]
			if r.Intn(3) == 0 {
				one.asked(t, r, pages)
				one.says(t)
			}
			if got, want := pool.Same(one.p, b.p), one.m.same(b.m); got != want {
				t.Fatalf("Same: %v, not %v", got, want)
			}
		}
	}
}
