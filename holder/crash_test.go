package holder_test

import (
	"slices"
	"testing"

	"millpond/api"
	"millpond/area"
	"millpond/device"
	"millpond/holder"
	"millpond/page"
	"millpond/rebuild"
)

// written is what a holder has of each page, or had as it gave it away: versions that it wrote, rising.
type written [][]api.Version

// set is a state of a holder, and what it wrote of each page, of four.
type set struct {
	name string
	make func(t *testing.T, w *world) written
}

// sets are, of three frames each: what stands in places, in logs, in memory, in frames, in all sorts of ways. The page 3, where it came dirty from elsewhere, has its records in the other node's log.
func sets() []set {
	return []set{
		{"all in memory", func(t *testing.T, w *world) written {
			l := make(written, 4)
			for _, number := range []int{0, 1, 2, 1, 0} {
				l.write(t, w, number)
			}
			return l
		}},
		{"some of it on the device", func(t *testing.T, w *world) written {
			l := make(written, 4)
			for _, number := range []int{0, 1, 0} {
				l.write(t, w, number)
			}
			fine(t, "Sync", w.h.Sync())
			for _, number := range []int{2, 1, 2} {
				l.write(t, w, number)
			}
			return l
		}},
		{"written back, cut, and written again", func(t *testing.T, w *world) written {
			l := make(written, 4)
			for _, number := range []int{0, 1, 2} {
				l.write(t, w, number)
			}
			backs(t, w.h, 0, 1)
			fine(t, "Cut", w.h.Cut())
			l.write(t, w, 0)
			backs(t, w.h, 1, 1)
			l.write(t, w, 1)
			l.write(t, w, 1)
			return l
		}},
		{"dirty from elsewhere", func(t *testing.T, w *world) written {
			l := make(written, 4)
			l.write(t, w, 0)
			fromElsewhere(t, w)
			l.write(t, w, 1)
			return l
		}},
		{"dirty from elsewhere, and written", func(t *testing.T, w *world) written {
			l := make(written, 4)
			l.write(t, w, 1)
			l[3] = []api.Version{fromElsewhere(t, w)}
			l.write(t, w, 3)
			l.write(t, w, 3)
			l.write(t, w, 0)
			return l
		}},
		{"marks, and a log that goes round", func(t *testing.T, w *world) written {
			l := make(written, 4)
			for range 4 {
				l.write(t, w, 2)
				backs(t, w.h, 2, l[2][len(l[2])-1].PSN)
				fine(t, "Cut", w.h.Cut())
			}
			l.write(t, w, 0)
			l.write(t, w, 0)
			toElsewhere(t, w, 0)
			l.write(t, w, 1)
			l.write(t, w, 2)
			backs(t, w.h, 1, 1)
			return l
		}},
	}
}

// write lets the holder write a page, which it holds or is granted.
func (l written) write(t *testing.T, w *world, number int) {
	t.Helper()
	if _, is := w.h.Look(number); !is {
		grants(t, w.h, number, 5, api.Exclusive)
	}
	f, _ := w.h.Look(number)
	l[number] = append(l[number], writes(t, w.h, number, f.V.PSN+1))
}

// fromElsewhere lets the other node write the page 3 twice, and yield it to this one.
func fromElsewhere(t *testing.T, w *world) api.Version {
	t.Helper()
	grants(t, w.other, 3, 1, api.Exclusive)
	writes(t, w.other, 3, 1)
	writes(t, w.other, 3, 2)
	f, e := w.other.Yield(3, 5)
	fine(t, "Yield", e)
	takes(t, w.h, 3, 5, api.Exclusive, f.V, f.Dirty)
	return f.V
}

// toElsewhere lets the other node have a page, dirty.
func toElsewhere(t *testing.T, w *world, number int) {
	t.Helper()
	f, e := w.h.Yield(number, 6)
	fine(t, "Yield", e)
	takes(t, w.other, number, 6, api.Exclusive, f.V, f.Dirty)
}

// acts are what is cut: each call that writes, of each page, and some of them one behind the other.
func acts() []func(h *holder.Holder) {
	l := []func(h *holder.Holder){
		func(h *holder.Holder) { h.Clean() },
		func(h *holder.Holder) { h.Freeze() },
		func(h *holder.Holder) { h.Sync() },
		func(h *holder.Holder) { h.Cut() },
		func(h *holder.Holder) { h.Clean(); h.Cut() },
	}
	for number := range 4 {
		l = append(l,
			func(h *holder.Holder) { h.Share(number, 9) },
			func(h *holder.Holder) { h.Yield(number, 9) },
			func(h *holder.Holder) { h.Yield(number, 9); h.Cut() },
			func(h *holder.Holder) { h.Back(number) },
			func(h *holder.Holder) { h.Back(number); h.Cut() },
			func(h *holder.Holder) { // one page goes after the other
				for range number + 1 {
					for free := range 4 {
						if _, is := h.Look(free); !is {
							h.Free(free)
							h.Take(free, 1, api.Shared, api.Version{}, false)
							break
						}
					}
				}
			},
		)
	}
	return l
}

// ruled fails unless each version of which the device has a sector, in its page's place, has its record in a log, or one as great stands there, whole.
func ruled(t *testing.T, d *device.Device, j api.Job) {
	t.Helper()
	best := durable(t, d, j)
	for number := range j.Pages {
		at, _ := area.Page(j, number)
		for half := range 2 {
			s, _ := d.Read(at + half)
			if stamp, is := page.Stamp(s); is && stamp.PSN > best[number].PSN {
				t.Fatalf("the place of the page %d has a half of PSN %d, and no log has a record of that: %d is the best one", number, stamp.PSN, best[number].PSN)
			}
		}
	}
}

// follows fails unless what is durable behind a crash is of each page what was, or what the holder wrote later.
func follows(t *testing.T, was, is []api.Version, wrote written) {
	t.Helper()
	for number, v := range is {
		later := slices.Contains(wrote[number], v) && v.PSN > was[number].PSN
		if v != was[number] && !later {
			t.Fatalf("the page %d was %+v, and is %+v", number, was[number], v)
		}
	}
}

// recovers fails unless others rebuild what a crash left, which changes nothing of what is durable; and unless the node goes on with it.
func recovers(t *testing.T, w *world) {
	t.Helper()
	is := durable(t, w.d, w.j)
	epoch, e := w.d.Up(0)
	fine(t, "Up", e)
	if _, e := rebuild.Rebuild(w.d, w.j, 1, 1); e != api.OK {
		t.Fatal(e)
	}
	h := opened(t, w.d, w.j, 0, epoch)
	fine(t, "Cut", h.Cut())
	for number, v := range is {
		frees(t, h, number)
		grants(t, h, number, 1, api.Exclusive)
		reads(t, h, number, v)
		writes(t, h, number, v.PSN+1)
		backs(t, h, number, v.PSN+1)
		drops(t, h, number, 2, true)
		fine(t, "Cut", h.Cut())
	}
}

// P17.8, P0.4 to P0.6: crashes in any sector of each call that writes. Each thing more that is done makes nothing less durable.
func TestCrashes(t *testing.T) {
	for _, s := range sets() {
		for n, act := range acts() {
			var less []api.Version
			for things, whole := 0, false; !whole; things++ {
				w := begin(t, of(4, 3, 6)) // each set has three frames
				wrote := s.make(t, w)
				was := durable(t, w.d, w.j)
				w.d.Cut(things)
				act(w.h)
				whole = w.d.Whole()
				is := durable(t, w.d, w.j)
				follows(t, was, is, wrote)
				ruled(t, w.d, w.j)
				for number := range less {
					if is[number].PSN < less[number].PSN {
						t.Fatalf("%s, the act %d: %d things make less durable than one fewer", s.name, n, things)
					}
				}
				less = is
				recovers(t, w)
			}
		}
	}
}

// P17.8: what leaves the pool by Share, Yield, Free, Back, Clean or Freeze has its record on the device.
func TestTheLogFirst(t *testing.T) {
	for _, c := range calls() {
		for number := range 3 {
			for flushed := range 6 {
				w := loaded(t, flushed)
				a := asked{page: number, op: 9}
				switch c.name {
				case "Share", "Yield", "Back", "Clean", "Freeze":
				case "Free":
					a.page = 4
				default:
					continue
				}
				if _, e := c.do(w.h, a); e != api.OK {
					t.Fatal(c.name, e)
				}
				logged(t, w.h, w.j, 1, 6, 5)
				recorded(t, w.d, w.j, 0, 1, api.Mark{Page: 0, PSN: 1}, api.Mark{Page: 1, PSN: 1}, api.Mark{Page: 2, PSN: 1}, api.Mark{Page: 0, PSN: 2}, api.Mark{Page: 1, PSN: 2})
			}
		}
	}
}

// P17.8, P17.5: the order in which things are done on the device: all records, then pages, rising; then the head.
func TestTheOrderOfWhatIsDone(t *testing.T) {
	var order []int
	w := loaded(t, 0)
	for n := range 5 {
		at, _ := area.Record(w.j, 0, int64(n)+1)
		order = append(order, at, at+1)
	}
	for number := range 4 {
		at, _ := area.Page(w.j, number)
		order = append(order, at, at+1)
	}
	head, _ := area.Head(w.j, 0)
	order = append(order, head)
	for things := range len(order) + 1 {
		w := loaded(t, 0)
		was := w.d.Copy()
		w.d.Cut(things)
		w.h.Freeze()
		w.h.Cut()
		w.d.Whole()
		for at, s := range w.d.All() {
			old, _ := was.Read(at)
			if slices.Contains(order[:things], at) != (s != old) {
				t.Fatalf("%d things: the sector %d", things, at)
			}
		}
	}
}
