package holder_test

import (
	"fmt"
	"math/rand"
	"slices"
	"testing"

	"millpond/api"
	"millpond/device"
	"millpond/holder"
	"millpond/rebuild"
)

// slot is a place of a pool, as the chapters' words have it.
type slot struct {
	taken, used bool
	f           api.Frame
}

// plain is a holder by the chapters' words alone, with what the device has of its log and of the pages.
type plain struct {
	j       api.Job
	node    int
	epoch   int64
	slots   []slot
	hand    int
	marks   []api.Mark
	start   int64
	log     []api.Record // from start on
	flushed int          // how many of them are
	fenced  bool
	places  []api.Version
	torn    []bool
}

// answer is what any call answers.
type answer struct {
	v api.Version
	f api.Frame
	l []api.Left
	n int64
	e api.Errno
}

func wrong(e api.Errno) answer { return answer{e: e} }

func (m *plain) find(page int) *slot {
	for i := range m.slots {
		if s := &m.slots[i]; s.taken && s.f.Page == page {
			return s
		}
	}
	return nil
}

func (m *plain) free() *slot {
	for i := range m.slots {
		if !m.slots[i].taken {
			return &m.slots[i]
		}
	}
	return nil
}

func (m *plain) next() int64 { return m.start + int64(len(m.log)) }

func (m *plain) flush() bool {
	if m.flushed < len(m.log) && m.fenced {
		return false
	}
	m.flushed = len(m.log)
	return true
}

// back tells which version was written back, and whether the device let it be.
func (m *plain) back(s *slot) (int64, bool) {
	if !s.f.Dirty {
		return 0, true
	}
	if !m.flush() || m.fenced {
		return 0, false
	}
	m.places[s.f.Page], m.torn[s.f.Page] = s.f.V, false
	s.f.Dirty, s.f.First, s.used = false, 0, true
	return s.f.V.PSN, true
}

func (m *plain) victim() *slot {
	for {
		s := &m.slots[m.hand]
		m.hand = (m.hand + 1) % len(m.slots)
		switch {
		case !s.taken:
		case s.used:
			s.used = false
		default:
			return s
		}
	}
}

func (m *plain) clean() answer {
	var a answer
	for page := range m.j.Pages {
		s := m.find(page)
		if s == nil || !s.f.Dirty {
			continue
		}
		op := s.f.Op
		psn, ok := m.back(s)
		if !ok {
			return wrong(api.ErrFenced)
		}
		a.l = append(a.l, api.Left{Page: page, Op: op, PSN: psn})
	}
	return a
}

func (m *plain) grant(page int, op int64, mode api.Mode) answer {
	s := m.find(page)
	switch {
	case s != nil && s.f.Op < op:
		s.f.Op, s.f.Mode, s.used = op, mode, true
	case s != nil:
		return wrong(api.ErrState)
	case m.free() == nil:
		return wrong(api.ErrFull)
	case m.torn[page]:
		return wrong(api.ErrCorrupt)
	default:
		*m.free() = slot{true, true, api.Frame{Page: page, Mode: mode, Op: op, V: m.places[page]}}
	}
	return answer{}
}

func (m *plain) take(page int, op int64, mode api.Mode, v api.Version, dirty bool) answer {
	s := m.find(page)
	switch {
	case s != nil && s.f.Op >= op:
		return wrong(api.ErrState)
	case s == nil && m.free() == nil:
		return wrong(api.ErrFull)
	case s == nil:
		*m.free() = slot{true, true, api.Frame{Page: page, Mode: mode, Op: op, V: v, Dirty: dirty}}
	default:
		s.used = true
		s.f = api.Frame{Page: page, Mode: mode, Op: op, V: v, Dirty: dirty || s.f.Dirty, First: s.f.First}
	}
	return answer{}
}

func (m *plain) write(page int, b api.Body) answer {
	s := m.find(page)
	switch {
	case s == nil || s.f.Mode != api.Exclusive:
		return wrong(api.ErrNone)
	case len(m.log) == m.j.Log || s.f.V.PSN == api.MaxStamp:
		return wrong(api.ErrFull)
	}
	lsn := m.next()
	s.f.V = api.Version{PSN: s.f.V.PSN + 1, Body: b}
	m.log = append(m.log, api.Record{Node: m.node, Epoch: m.epoch, LSN: lsn, Page: page, PSN: s.f.V.PSN, Body: b})
	s.f.Dirty, s.used = true, true
	if s.f.First == 0 {
		s.f.First = lsn
	}
	return answer{v: s.f.V}
}

func (m *plain) makeFree(page int) answer {
	if m.find(page) != nil || m.free() != nil {
		return answer{}
	}
	s := m.victim()
	left := api.Left{Page: s.f.Page, Op: s.f.Op, Gone: true}
	psn, ok := m.back(s)
	if !ok {
		return wrong(api.ErrFenced)
	}
	left.PSN = psn
	*s = slot{}
	return answer{l: []api.Left{left}}
}

func (m *plain) yield(page int, op int64) answer {
	s := m.find(page)
	if s == nil || s.f.Op >= op {
		return wrong(api.ErrNone)
	}
	if !m.flush() {
		return wrong(api.ErrFenced)
	}
	f := s.f
	if f.Dirty && f.First != 0 && f.V.PSN != 0 {
		m.mark(api.Mark{Page: page, PSN: f.V.PSN, First: f.First})
	}
	*s = slot{}
	return answer{f: f}
}

func (m *plain) mark(k api.Mark) {
	for i := range m.marks {
		if had := &m.marks[i]; had.Page == k.Page && had.PSN == k.PSN {
			had.First = min(had.First, k.First)
			return
		}
	}
	m.marks = append(m.marks, k)
	slices.SortFunc(m.marks, func(a, b api.Mark) int {
		if a.Page != b.Page {
			return a.Page - b.Page
		}
		return int(a.PSN - b.PSN)
	})
}

func (m *plain) discard(page int, psn int64) answer {
	had := len(m.marks)
	m.marks = slices.DeleteFunc(m.marks, func(k api.Mark) bool { return k.Page == page && k.PSN <= psn })
	return answer{n: int64(had - len(m.marks))}
}

func (m *plain) cut() answer {
	if !m.flush() || m.fenced {
		return wrong(api.ErrFenced)
	}
	bound := m.next()
	for _, k := range m.marks {
		bound = min(bound, k.First)
	}
	for _, s := range m.slots {
		if s.taken && s.f.First != 0 {
			bound = min(bound, s.f.First)
		}
	}
	gone := int(bound - m.start)
	m.log, m.flushed, m.start = m.log[gone:], m.flushed-gone, bound
	return answer{}
}

// do is any call by its number: what it answers by the words. What is asked may be, but for the page.
func (m *plain) do(n int, a asked) answer {
	s := m.find(a.page)
	if a.page >= m.j.Pages && !slices.Contains([]int{9, 11, 12, 13}, n) {
		return wrong(api.ErrArg)
	}
	switch n {
	case 0:
		if s == nil {
			return wrong(api.ErrNone)
		}
		s.used = true
		return answer{v: s.f.V}
	case 1:
		return m.write(a.page, a.v.Body)
	case 2:
		return m.makeFree(a.page)
	case 3:
		return m.grant(a.page, a.op, a.mode)
	case 4:
		return m.take(a.page, a.op, a.mode, a.v, a.dirty)
	case 5:
		if s == nil || s.f.Op >= a.op {
			return wrong(api.ErrNone)
		}
		if !m.flush() {
			return wrong(api.ErrFenced)
		}
		s.f.Op, s.f.Mode, s.used = a.op, api.Shared, true
		return answer{f: s.f}
	case 6:
		return m.yield(a.page, a.op)
	case 7:
		switch {
		case s == nil || s.f.Op >= a.op:
			return answer{}
		case s.f.Dirty:
			return wrong(api.ErrState)
		}
		*s = slot{}
		return answer{n: 1}
	case 8:
		if s == nil {
			return wrong(api.ErrNone)
		}
		if _, ok := m.back(s); !ok {
			return wrong(api.ErrFenced)
		}
		return answer{n: s.f.V.PSN}
	case 9:
		return m.clean()
	case 10:
		return m.discard(a.page, a.psn)
	case 11:
		if !m.flush() {
			return wrong(api.ErrFenced)
		}
		return answer{}
	case 12:
		return m.cut()
	}
	if a := m.clean(); a.e != api.OK {
		return wrong(a.e)
	}
	m.slots, m.hand, m.marks = make([]slot, m.j.Frames), 0, nil
	return answer{}
}

// ask is the same of a holder.
func ask(h *holder.Holder, n int, a asked) answer {
	var b answer
	switch n {
	case 0:
		b.v, b.e = h.Read(a.page)
	case 1:
		b.v, b.e = h.Write(a.page, a.v.Body)
	case 2:
		b.l, b.e = h.Free(a.page)
	case 3:
		b.e = h.Grant(a.page, a.op, a.mode)
	case 4:
		b.e = h.Take(a.page, a.op, a.mode, a.v, a.dirty)
	case 5:
		b.f, b.e = h.Share(a.page, a.op)
	case 6:
		b.f, b.e = h.Yield(a.page, a.op)
	case 7:
		var gone bool
		if gone, b.e = h.Drop(a.page, a.op); gone {
			b.n = 1
		}
	case 8:
		b.n, b.e = h.Back(a.page)
	case 9:
		b.l, b.e = h.Clean()
	case 10:
		var many int
		many, b.e = h.Discard(a.page, a.psn)
		b.n = int64(many)
	case 11:
		b.e = h.Sync()
	case 12:
		b.e = h.Cut()
	default:
		b.e = h.Freeze()
	}
	return b
}

// asWords fails unless a holder, and the device beneath, are by all looks as the words have them.
func asWords(t *testing.T, h *holder.Holder, d *device.Device, m *plain) {
	t.Helper()
	var frames []api.Frame
	for page := range m.j.Pages {
		if s := m.find(page); s != nil {
			frames = append(frames, s.f)
		}
	}
	stays(t, "by the words", h, sight{frames, m.marks, m.j.Log - len(m.log), m.start, m.next(), m.start + int64(m.flushed) - 1})
	has(t, h, frames...)
	for page, v := range m.places {
		got, whole, e := rebuild.Place(d, m.j, page)
		if e != api.OK || whole == m.torn[page] || whole && got != v {
			t.Fatalf("the place of the page %d: %+v, %v, %v; not %+v, %v", page, got, whole, e, v, !m.torn[page])
		}
	}
	l, e := rebuild.Records(d, m.j, m.node)
	if e != api.OK || !slices.Equal(l, m.log[:m.flushed]) {
		t.Fatalf("the log on the device: %+v, %v; not %+v", l, e, m.log[:m.flushed])
	}
}

// anything is what a call may be asked for.
func anything(r *rand.Rand, j api.Job, op *int64) asked {
	*op += int64(r.Intn(2))
	a := asked{page: r.Intn(j.Pages), op: max(*op-int64(r.Intn(3)), 1), mode: api.Shared + api.Mode(r.Intn(2)), dirty: r.Intn(2) == 0, psn: int64(r.Intn(12))}
	if r.Intn(40) == 0 {
		a.page = j.Pages
	}
	a.v = version(int64(1+r.Intn(9)), r.Int())
	switch r.Intn(12) {
	case 0:
		a.v = api.Version{}
	case 1:
		a.v.PSN = api.MaxStamp
	}
	return a
}

// P17.1 to P17.7: any rows of calls, in jobs of many kinds, till the holder is fenced, and behind that, are answered by the words, and leave what they say.
func TestAnyCalls(t *testing.T) {
	r := rand.New(rand.NewSource(17))
	often := []int{0, 0, 1, 1, 1, 1, 1, 1, 2, 2, 3, 3, 3, 3, 4, 4, 5, 5, 6, 6, 6, 7, 7, 8, 8, 9, 10, 10, 11, 11, 12, 12, 13}
	for range 200 {
		j := of(1+r.Intn(5), 1+r.Intn(4), 2+r.Intn(6))
		d, h := began(t, j)
		m := &plain{j: j, epoch: 1, slots: make([]slot, j.Frames), start: 1, places: make([]api.Version, j.Pages), torn: make([]bool, j.Pages)}
		op, fence := int64(0), r.Intn(300)
		for step := range 200 {
			if step == fence {
				d.Up(0)
				m.fenced = true
			}
			if page := r.Intn(j.Pages); r.Intn(50) == 0 && !m.torn[page] && m.places[page].PSN < 100 {
				tear(t, d, j, page, version(1000, 1))
				m.torn[page] = true
			}
			n, a := often[r.Intn(len(often))], anything(r, j, &op)
			got, want := ask(h, n, a), m.do(n, a)
			if fmt.Sprintf("%+v", got) != fmt.Sprintf("%+v", want) {
				t.Fatalf("the call %d of %+v: %+v, not %+v", n, a, got, want)
			}
			asWords(t, h, d, m)
		}
	}
}
