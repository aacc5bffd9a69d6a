package area_test

import (
	"testing"

	"millpond/api"
	"millpond/area"
)

// byWords is what lies in each sector, put down one behind the other as the chapter says it.
func byWords(j api.Job) []api.Place {
	l := []api.Place{{Kind: api.PlaceView}}
	for node := range 8 {
		l = append(l, api.Place{Kind: api.PlaceLease, Node: node})
	}
	for node := range j.Nodes {
		l = append(l, api.Place{Kind: api.PlaceHead, Node: node})
		for place := range j.Log {
			l = append(l, api.Place{Kind: api.PlaceRecord, Node: node, Index: place}, api.Place{Kind: api.PlaceRecord, Node: node, Index: place, Half: 1})
		}
	}
	for page := range j.Pages {
		l = append(l, api.Place{Kind: api.PlacePage, Index: page}, api.Place{Kind: api.PlacePage, Index: page, Half: 1})
	}
	return l
}

// lies fails unless that lies in a sector.
func lies(t *testing.T, j api.Job, sector int, want api.Place) {
	t.Helper()
	if p, e := area.Of(j, sector); p != want || e != api.OK {
		t.Errorf("Of %d of %+v: %+v, %v; not %+v", sector, j, p, e, want)
	}
}

// astray fails unless a sector is none of the job's.
func astray(t *testing.T, j api.Job, sector int) {
	t.Helper()
	if p, e := area.Of(j, sector); p != (api.Place{}) || e != api.ErrArg {
		t.Errorf("Of %d of %+v: %+v, %v; not ErrArg", sector, j, p, e)
	}
}

// P5.1, P5.2: each sector of each job that may be has what the chapter's words put there.
func TestEachSectorOfEachJob(t *testing.T) {
	each(func(j api.Job) {
		l := byWords(j)
		sectors(j, at(t, len(l)))
		for s, p := range l {
			lies(t, j, s, p)
		}
		astray(t, j, -1)
		astray(t, j, len(l))
		if t.Failed() {
			t.FailNow()
		}
	})
}

// P5.2: the first and the last sector of each area.
func TestAreasEdges(t *testing.T) {
	j := of(2, 3, 2)
	for s, p := range map[int]api.Place{
		0: {Kind: api.PlaceView}, 1: {Kind: api.PlaceLease}, 8: {Kind: api.PlaceLease, Node: 7},
		9: {Kind: api.PlaceHead}, 10: {Kind: api.PlaceRecord}, 11: {Kind: api.PlaceRecord, Half: 1}, 13: {Kind: api.PlaceRecord, Index: 1, Half: 1},
		14: {Kind: api.PlaceHead, Node: 1}, 15: {Kind: api.PlaceRecord, Node: 1}, 18: {Kind: api.PlaceRecord, Node: 1, Index: 1, Half: 1},
		19: {Kind: api.PlacePage}, 20: {Kind: api.PlacePage, Half: 1}, 21: {Kind: api.PlacePage, Index: 1}, 24: {Kind: api.PlacePage, Index: 2, Half: 1},
	} {
		lies(t, j, s, p)
	}
}

// P5.2
func TestSectorsThatAreNone(t *testing.T) {
	for _, j := range some() {
		n := len(byWords(j))
		for _, s := range []int{n, n + 1, api.MaxSectors, n - 1<<32, n - 1 + 1<<32} {
			astray(t, j, s)
		}
		for _, s := range far {
			if s < 0 || s >= n {
				astray(t, j, s)
			}
		}
	}
}

// P5.2: rising, all of them, each with what Of tells; as often as one likes, the one within the other too.
func TestAllGoesOverAllSectors(t *testing.T) {
	for _, j := range some() {
		all := area.All(j)
		for range 3 {
			next := 0
			for s, p := range all {
				if s != next {
					t.Fatalf("All of %+v tells %d, not %d", j, s, next)
				}
				lies(t, j, s, p)
				next++
			}
			sectors(j, at(t, next))
		}
	}
	all, many := area.All(of(2, 1, 2)), 0
	for s := range all {
		next := 0
		for u := range all {
			if u != next {
				t.Fatalf("beside %d All tells %d, not %d", s, u, next)
			}
			next++
			many++
		}
	}
	if many != 21*21 {
		t.Error(many)
	}
}

// P5.2: it may be left behind each sector, tells nothing more then, and begins anew.
func TestAllMayBeLeft(t *testing.T) {
	for _, j := range []api.Job{of(2, 3, 2), of(3, 1, 5)} {
		all, want := area.All(j), byWords(j)
		for last := range want {
			var got []api.Place
			all(func(s int, p api.Place) bool {
				if s != len(got) || p != want[s] {
					t.Fatalf("All of %+v tells %d, %+v", j, s, p)
				}
				got = append(got, p)
				return s < last
			})
			if len(got) != last+1 {
				t.Errorf("All of %+v, left behind %d, told %d", j, last, len(got))
			}
		}
	}
}

// thing is what lies somewhere, with its first sector and how many it has.
type thing struct {
	first, size int
	place       api.Place
}

// things are all of a job's, its records from the LSN first on, as many as a log has room for.
func things(t *testing.T, j api.Job, first int64) []thing {
	var l []thing
	put := func(size int, p api.Place) check {
		return func(name string, j api.Job, got int, e api.Errno) {
			if e != api.OK {
				t.Fatalf("%s of %+v: %v", name, j, e)
			}
			l = append(l, thing{got, size, p})
		}
	}
	view(j, put(1, api.Place{Kind: api.PlaceView}))
	for node := range api.MaxNodes {
		lease(j, node, put(1, api.Place{Kind: api.PlaceLease, Node: node}))
	}
	for node := range j.Nodes {
		head(j, node, put(1, api.Place{Kind: api.PlaceHead, Node: node}))
		for lsn := first; lsn < first+int64(j.Log); lsn++ {
			recordAt(j, node, lsn, put(2, api.Place{Kind: api.PlaceRecord, Node: node, Index: int((lsn - 1) % int64(j.Log))}))
		}
	}
	for page := range j.Pages {
		pageAt(j, page, put(2, api.Place{Kind: api.PlacePage, Index: page}))
	}
	return l
}

// covered fails unless each sector has just one of the job's things, and Of tells that one, and which half of it.
func covered(t *testing.T, j api.Job, first int64) {
	many, _ := area.Sectors(j)
	taken := make([]int, many)
	for _, x := range things(t, j, first) {
		for half := range x.size {
			p := x.place
			p.Half = half
			lies(t, j, x.first+half, p)
			taken[x.first+half]++
		}
	}
	for s, n := range taken {
		if n != 1 {
			t.Errorf("%d things lie in the sector %d of %+v", n, s, j)
		}
	}
}

// P5.3: no two things lie in one sector, each sector has something, and Of tells of each thing's first sector that thing.
func TestEachSectorHasOneThing(t *testing.T) {
	each(func(j api.Job) {
		covered(t, j, 1)
		if t.Failed() {
			t.FailNow()
		}
	})
}

// P5.3: wherever a log begins, as many records as it has room for lie apart.
func TestEachSectorHasOneThingAsALogGoesRound(t *testing.T) {
	for _, j := range some() {
		for first := range int64(j.Log) {
			covered(t, j, first+2)
		}
		covered(t, j, api.MaxStamp-int64(j.Log)+1)
	}
}

// P5.3: two records of a log lie in one place just if their LSNs are apart by a multiple of Log; those of two logs never do.
func TestRecordsOfOnePlace(t *testing.T) {
	for _, j := range []api.Job{of(2, 1, 2), of(3, 2, 5), of(2, 3, 64)} {
		log := int64(j.Log)
		for a := int64(1); a <= 2*log+1; a++ {
			for _, b := range []int64{a, a + 1, a + log - 1, a + log, a + log + 1, a + 2*log, a + 7*log, a + 7*log - 1, api.MaxStamp, api.MaxStamp - 1} {
				one, _ := area.Record(j, 0, a)
				two, _ := area.Record(j, 0, b)
				other, _ := area.Record(j, 1, b)
				if (one == two) != ((b-a)%log == 0) || one == other {
					t.Errorf("Record of %+v: the LSN %d in %d, %d in %d, of another node in %d", j, a, one, b, two, other)
				}
			}
		}
	}
}
