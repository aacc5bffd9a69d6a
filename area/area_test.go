package area_test

import (
	"fmt"
	"math"
	"testing"

	"millpond/api"
	"millpond/area"
)

// of is a job of so many nodes and pages, and room in its logs.
func of(nodes, pages, log int) api.Job {
	return api.Job{Nodes: nodes, Pages: pages, Frames: 1, Log: log, Patience: 2}
}

// some are jobs at the edges and between.
func some() []api.Job {
	return []api.Job{
		of(2, 3, 2), of(2, 1, 2), of(8, 16, 64), of(8, 1, 2), of(2, 16, 2), of(2, 1, 64), of(3, 2, 4), of(5, 7, 3), of(7, 15, 63),
		{Nodes: 4, Pages: 5, Frames: 16, Log: 7, Patience: 100},
	}
}

// each hands every job that may be, as far as its sectors hang on it.
func each(f func(j api.Job)) {
	for nodes := 2; nodes <= api.MaxNodes; nodes++ {
		for pages := 1; pages <= api.MaxPages; pages++ {
			for log := 2; log <= api.MaxLog; log++ {
				f(of(nodes, pages, log))
			}
		}
	}
}

// far are numbers that no bound lets in; some have one that may be in their lowest byte, or in their lowest four.
var far = []int{-1, -2, -256, 256, 258, 1 << 31, 1 << 32, 1<<32 + 2, 2 - 1<<32, math.MaxInt, math.MaxInt - 1, math.MinInt, math.MinInt + 2}

// wrongJobs are jobs that may not be, each but the last ones for one number.
func wrongJobs() []api.Job {
	var l []api.Job
	for _, n := range append([]int{0, 1, api.MaxNodes + 1}, far...) {
		l = append(l, api.Job{Nodes: n, Pages: 3, Frames: 1, Log: 2, Patience: 2})
	}
	for _, n := range append([]int{0, api.MaxPages + 1}, far...) {
		l = append(l, api.Job{Nodes: 2, Pages: n, Frames: 1, Log: 2, Patience: 2})
	}
	for _, n := range append([]int{0, 1, api.MaxLog + 1}, far...) {
		l = append(l, api.Job{Nodes: 2, Pages: 3, Frames: 1, Log: n, Patience: 2})
	}
	for _, n := range append([]int{0, api.MaxFrames + 1}, far...) {
		l = append(l, api.Job{Nodes: 2, Pages: 3, Frames: n, Log: 2, Patience: 2})
	}
	for _, n := range append([]int{0, 1, api.MaxPatience + 1}, far...) {
		l = append(l, api.Job{Nodes: 2, Pages: 3, Frames: 1, Log: 2, Patience: n})
	}
	for _, n := range far {
		l = append(l, api.Job{Nodes: n, Pages: n, Frames: n, Log: n, Patience: n}, of(n, n, 2), of(2, n, n), of(n, 3, n))
	}
	return append(l, api.Job{})
}

// check is handed a call's name, its job and what it answered.
type check func(name string, j api.Job, got int, e api.Errno)

// at fails unless a call answered that number.
func at(t *testing.T, want int) check {
	return func(name string, j api.Job, got int, e api.Errno) {
		if got != want || e != api.OK {
			t.Errorf("%s of %+v: %d, %v; not %d", name, j, got, e, want)
		}
	}
}

// refused fails unless a call answered ErrArg, and nothing beside it.
func refused(t *testing.T) check {
	return func(name string, j api.Job, got int, e api.Errno) {
		if got != 0 || e != api.ErrArg {
			t.Errorf("%s of %+v: %d, %v; not ErrArg", name, j, got, e)
		}
	}
}

func sectors(j api.Job, f check) {
	n, e := area.Sectors(j)
	f("Sectors", j, n, e)
}

func view(j api.Job, f check) {
	s, e := area.View(j)
	f("View", j, s, e)
}

func lease(j api.Job, node int, f check) {
	s, e := area.Lease(j, node)
	f(fmt.Sprintf("Lease(%d)", node), j, s, e)
}

func head(j api.Job, node int, f check) {
	s, e := area.Head(j, node)
	f(fmt.Sprintf("Head(%d)", node), j, s, e)
}

func recordAt(j api.Job, node int, lsn int64, f check) {
	s, e := area.Record(j, node, lsn)
	f(fmt.Sprintf("Record(%d, %d)", node, lsn), j, s, e)
}

func pageAt(j api.Job, page int, f check) {
	s, e := area.Page(j, page)
	f(fmt.Sprintf("Page(%d)", page), j, s, e)
}

// P5.1: the chapter's examples.
func TestExamples(t *testing.T) {
	j := of(2, 3, 2)
	sectors(j, at(t, 25))
	view(j, at(t, 0))
	lease(j, 1, at(t, 2))
	lease(j, 7, at(t, 8))
	head(j, 0, at(t, 9))
	head(j, 1, at(t, 14))
	recordAt(j, 1, 1, at(t, 15))
	recordAt(j, 1, 2, at(t, 17))
	recordAt(j, 1, 3, at(t, 15))
	pageAt(j, 0, at(t, 19))
	pageAt(j, 2, at(t, 23))
	pageAt(j, 3, refused(t))
	if p, e := area.Of(j, 24); p != (api.Place{Kind: api.PlacePage, Index: 2, Half: 1}) || e != api.OK {
		t.Errorf("Of 24: %+v, %v", p, e)
	}
}

// P5.1: jobs at their least and greatest, by numbers that are counted by hand.
func TestJobsAtTheirBounds(t *testing.T) {
	for _, x := range []struct {
		job                   api.Job
		all, last, slot, page int
	}{
		{of(2, 1, 2), 21, 14, 17, 19}, {of(2, 16, 2), 51, 14, 17, 49}, {of(2, 1, 64), 269, 138, 265, 267},
		{of(8, 1, 2), 51, 44, 47, 49}, {of(8, 16, 64), 1073, 912, 1039, 1071},
		{api.Job{Nodes: 2, Pages: 1, Frames: api.MaxFrames, Log: 2, Patience: api.MaxPatience}, 21, 14, 17, 19},
	} {
		sectors(x.job, at(t, x.all))
		view(x.job, at(t, 0))
		lease(x.job, 0, at(t, 1))
		lease(x.job, api.MaxNodes-1, at(t, api.MaxNodes))
		head(x.job, 0, at(t, 9))
		head(x.job, x.job.Nodes-1, at(t, x.last))
		recordAt(x.job, x.job.Nodes-1, int64(x.job.Log), at(t, x.slot))
		pageAt(x.job, x.job.Pages-1, at(t, x.page))
	}
}

// P5.1: frames and patience move nothing, at their least and greatest.
func TestFramesAndPatienceMoveNothing(t *testing.T) {
	for _, j := range some() {
		want, _ := area.Sectors(j)
		for _, frames := range []int{1, api.MaxFrames} {
			for _, patience := range []int{2, api.MaxPatience} {
				k := j
				k.Frames, k.Patience = frames, patience
				sectors(k, at(t, want))
			}
		}
	}
}

// P5.1, P5.2: every call tells ErrArg of a job that may not be, and All goes over nothing of it.
func TestJobsThatMayNotBe(t *testing.T) {
	no := refused(t)
	for _, j := range wrongJobs() {
		sectors(j, no)
		view(j, no)
		for _, n := range append([]int{0, 1}, far...) {
			lease(j, n, no)
			head(j, n, no)
			pageAt(j, n, no)
			recordAt(j, n, 1, no)
			recordAt(j, 0, int64(n), no)
			astray(t, j, n)
		}
		for s, p := range area.All(j) {
			t.Fatalf("All of %+v tells %d, %+v", j, s, p)
		}
	}
}

// P5.1: Lease of all eight nodes, those that are not the job's too, and of none beside them.
func TestLeases(t *testing.T) {
	for _, j := range some() {
		for node := range api.MaxNodes {
			lease(j, node, at(t, 1+node))
		}
		for _, node := range append([]int{-1, api.MaxNodes, api.MaxNodes + 1}, far...) {
			lease(j, node, refused(t))
		}
	}
}

// P5.1: Head and Record of the job's nodes alone.
func TestNodesThatAreNotTheJobs(t *testing.T) {
	for _, j := range some() {
		for _, node := range append([]int{-1, j.Nodes, j.Nodes + 1, api.MaxNodes}, far...) {
			head(j, node, refused(t))
			for _, lsn := range []int64{0, 1, int64(j.Log), api.MaxStamp, api.MaxStamp + 1} {
				recordAt(j, node, lsn, refused(t))
			}
		}
		for _, node := range []int{0, j.Nodes - 1} {
			first := 9 + node*(1+2*j.Log)
			head(j, node, at(t, first))
			recordAt(j, node, 1, at(t, first+1))
		}
	}
}

// P5.1: LSNs at their bounds, and where a log goes round.
func TestLSNs(t *testing.T) {
	for _, j := range some() {
		log := int64(j.Log)
		for _, node := range []int{0, 1, j.Nodes - 1} {
			first := 9 + node*(1+2*j.Log) + 1
			for lsn := range 3 * log {
				recordAt(j, node, lsn+1, at(t, first+2*int(lsn%log)))
			}
			recordAt(j, node, log, at(t, first+2*(j.Log-1)))
			recordAt(j, node, log+1, at(t, first))
			recordAt(j, node, api.MaxStamp, at(t, first+2*int((api.MaxStamp-1)%log)))
			recordAt(j, node, api.MaxStamp-1, at(t, first+2*int((api.MaxStamp-2)%log)))
			for _, lsn := range []int64{0, -1, -log, 1 - log, api.MaxStamp + 1, api.MaxStamp + 2, 1<<32 + 1, 1 - 1<<32, math.MaxInt64, math.MinInt64, math.MinInt64 + 1} {
				recordAt(j, node, lsn, refused(t))
			}
		}
	}
	recordAt(of(2, 1, 64), 0, api.MaxStamp, at(t, 10+2*62)) // 2^31 - 2 is 62 modulo 64
}

// P5.1: pages of the job alone.
func TestPages(t *testing.T) {
	for _, j := range some() {
		first := 9 + j.Nodes*(1+2*j.Log)
		pageAt(j, 0, at(t, first))
		pageAt(j, j.Pages-1, at(t, first+2*(j.Pages-1)))
		for _, page := range append([]int{-1, j.Pages, j.Pages + 1, api.MaxPages}, far...) {
			pageAt(j, page, refused(t))
		}
	}
}

// P5.1: a device has room for all sectors of any job.
func TestADeviceHasRoom(t *testing.T) {
	each(func(j api.Job) {
		if n, e := area.Sectors(j); n < 1 || n > api.MaxSectors || e != api.OK {
			t.Errorf("Sectors of %+v: %d, %v", j, n, e)
		}
	})
}
