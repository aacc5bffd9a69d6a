package rebuild_test

import (
	"slices"
	"testing"

	"millpond/api"
	"millpond/device"
	"millpond/rebuild"
)

// P12.1: a page's place that is whole: of a new device, of any version, of each page.
func TestPlacesThatAreWhole(t *testing.T) {
	for _, j := range []api.Job{of(2, 1, 2), of(3, 5, 4), of(8, 16, 64)} {
		for p := range j.Pages {
			d := made(t, j, 1)
			place(t, d, j, p, api.Version{}, true)
			for _, psn := range []int64{1, 2, 255, 256, 1 << 24, api.MaxStamp - 1, api.MaxStamp} {
				v := version(psn, byte(p))
				layPage(t, d, j, p, v)
				place(t, d, j, p, v, true)
				was := d.Copy()
				for q := range j.Pages {
					if q != p {
						place(t, d, j, q, api.Version{}, true)
					}
				}
				untouched(t, "Place", d, was)
			}
			layPage(t, d, j, p, api.Version{PSN: 5})
			place(t, d, j, p, api.Version{PSN: 5}, true)
			layPage(t, d, j, p, api.Version{})
			place(t, d, j, p, api.Version{}, true)
		}
	}
}

// wrongPlaces are what a place of the page 1 may have, so that it is not whole.
func wrongPlaces(t *testing.T) [][2]api.Sector {
	five, six, other := sectorsOf(t, 1, version(5, 'a')), sectorsOf(t, 1, version(6, 'b')), sectorsOf(t, 0, version(5, 'a'))
	rest := five
	rest[1][63] = 1
	rec := halvesOf(t, recordOf(1, 1, 1, 1, 5))
	return [][2]api.Sector{
		{six[0], five[1]}, {five[0], six[1]}, {five[0], {}}, {{}, five[1]}, {five[1], five[0]}, {five[0], five[0]}, {five[1], five[1]},
		other, {other[0], five[1]}, {five[0], other[1]}, rest, rec, {{1}, {}}, {{}, {1}}, {{}, {63: 1}},
		{{161, 1, 0, 0, 0, 0}, {162, 1, 0, 0, 0, 0}}, {{161, 1, 0x80, 0, 0, 0}, {162, 1, 0x80, 0, 0, 0}}, {{161, 17, 0, 0, 0, 5}, {162, 17, 0, 0, 0, 5}},
	}
}

// P12.1, P12.2, P0.5: a place that is torn, of another page or of no version has none: what stands is out of the logs, or version 0, and it is missing.
func TestPlacesThatAreNotWhole(t *testing.T) {
	j := of(2, 3, 2)
	for i, l := range wrongPlaces(t) {
		d := made(t, j, 1, 1)
		layPage(t, d, j, 0, version(1, 'c'))
		lay(t, d, pageAt(t, j, 1), l[:]...)
		place(t, d, j, 1, api.Version{}, false)
		place(t, d, j, 0, version(1, 'c'), true)
		best(t, d, j, in(0, version(1, 'c')), nought(1), in(2, api.Version{}))
		for _, psn := range []int64{1, 4, 5, 6, 7} {
			r := recordOf(1, 1, 1, 1, psn)
			layRecord(t, d, j, r)
			place(t, d, j, 1, api.Version{}, false)
			best(t, d, j, in(0, version(1, 'c')), logged(r), in(2, api.Version{}))
		}
		rebuilt(t, d, j, 0, 1, 1)
		place(t, d, j, 1, version(7, letter(1, 1)), true)
		if t.Failed() {
			t.Fatalf("the place %d", i)
		}
	}
}

// P12.2: version 0 stands always: in its place, or missing where that is not whole; Rebuild lays noughts then.
func TestVersionNought(t *testing.T) {
	j := of(2, 3, 2)
	d := made(t, j, 1, 1)
	was := d.Copy()
	best(t, d, j, in(0, api.Version{}), in(1, api.Version{}), in(2, api.Version{}))
	rebuilt(t, d, j, 0, 1, 0)
	untouched(t, "Rebuild of nothing", d, was)
	for p := range 3 {
		tear(t, d, j, p)
	}
	best(t, d, j, nought(0), nought(1), nought(2))
	rebuilt(t, d, j, 0, 1, 3)
	best(t, d, j, in(0, api.Version{}), in(1, api.Version{}), in(2, api.Version{}))
	if !device.Same(d, was) {
		t.Error("there are no noughts")
	}
}

// P12.2: the greatest PSN counts, wherever it stands: in the place, in any node's log, at any LSN.
func TestTheGreatestPSN(t *testing.T) {
	j := of(3, 2, 3)
	for node := range 3 {
		for lsn := int64(1); lsn <= 3; lsn++ {
			for _, psn := range []int64{1, 2, 300, api.MaxStamp - 1} {
				d := made(t, j, 1, 1, 1)
				for n := range 3 {
					for i := int64(1); i <= 3; i++ {
						layRecord(t, d, j, recordOf(n, 1, i, 1, psn))
					}
				}
				r := recordOf(node, 1, lsn, 1, psn+1)
				layRecord(t, d, j, r)
				best(t, d, j, in(0, api.Version{}), logged(r))
				layPage(t, d, j, 1, version(psn, 'p'))
				best(t, d, j, in(0, api.Version{}), logged(r))
				if psn+2 <= api.MaxStamp {
					layPage(t, d, j, 1, version(psn+2, 'p'))
					best(t, d, j, in(0, api.Version{}), in(1, version(psn+2, 'p')))
				}
			}
		}
	}
}

// P12.2: of several of one PSN that of the place counts, its bytes too; else that of the lowest node, and of one node that of the lowest LSN.
func TestOnePSNInSeveral(t *testing.T) {
	j := of(3, 1, 3)
	for in0 := range 8 { // which of the LSNs of each log has it
		for in1 := range 8 {
			for in2 := range 8 {
				d := made(t, j, 1, 1, 1)
				want := in(0, version(1, 'p'))
				layPage(t, d, j, 0, want.V)
				for node, bits := range []int{in0, in1, in2} {
					for i := range 3 {
						r := recordOf(node, 1, int64(i)+1, 0, 1)
						if bits>>i&1 == 1 {
							r = recordOf(node, 1, int64(i)+1, 0, 4)
							if want.V.PSN == 1 {
								want = logged(r)
							}
						}
						layRecord(t, d, j, r)
					}
				}
				best(t, d, j, want)
				layPage(t, d, j, 0, version(4, 'p'))
				best(t, d, j, in(0, version(4, 'p')))
				tear(t, d, j, 0)
				if want.In { // the first record of the PSN 1 is as good as the place was
					want = logged(recordOf(0, 1, 1, 0, 1))
				}
				best(t, d, j, want)
			}
		}
	}
}

// P12.2: a record that has just what its place has adds nothing; one of the same PSN with other bytes neither: the place has it.
func TestTheSameInPlaceAndLog(t *testing.T) {
	j := of(2, 1, 2)
	d := made(t, j, 1, 1)
	r := recordOf(1, 1, 1, 0, 3)
	layRecord(t, d, j, r)
	layPage(t, d, j, 0, logged(r).V)
	best(t, d, j, in(0, logged(r).V))
	rebuilt(t, d, j, 0, 1, 0)
	layPage(t, d, j, 0, version(3, 'z'))
	best(t, d, j, in(0, version(3, 'z')))
	rebuilt(t, d, j, 0, 1, 0)
	place(t, d, j, 0, version(3, 'z'), true)
}

// P12.2: each page has its own best one, of the logs of several nodes, of those that never came up too.
func TestPagesApart(t *testing.T) {
	j := of(8, 16, 4)
	d := made(t, j, 1, 0, 3)
	var want []api.Found
	for p := range 16 {
		r := recordOf(p%8, 1+int64(p/8), 1+int64(p/8), p, 10+int64(p))
		layRecord(t, d, j, r)
		switch p % 3 {
		case 0:
			layPage(t, d, j, p, version(10+int64(p)-1, 'o'))
			want = append(want, logged(r))
		case 1:
			layPage(t, d, j, p, version(10+int64(p), 'o'))
			want = append(want, in(p, version(10+int64(p), 'o')))
		case 2:
			tear(t, d, j, p)
			want = append(want, logged(r))
		}
	}
	best(t, d, j, want...)
	rebuilt(t, d, j, 2, 3, 11)
	for i, f := range want {
		want[i] = in(i, f.V)
	}
	best(t, d, j, want...)
}

// lossy is a device of 4 pages of which 1, 2 and 3 are missing, and these.
func lossy(t *testing.T, j api.Job) (*device.Device, []api.Found) {
	t.Helper()
	d := made(t, j, 1, 1)
	layPage(t, d, j, 0, version(9, 'p'))
	one, three := recordOf(1, 1, 1, 1, 2), recordOf(0, 1, 1, 3, 7)
	layRecord(t, d, j, one, three)
	tear(t, d, j, 2)
	tear(t, d, j, 3)
	return d, []api.Found{logged(one), nought(2), logged(three)}
}

// P12.2: Missing is gone over whole, left anywhere, and gone over again, within itself too.
func TestMissingAgainAndAgain(t *testing.T) {
	j := of(2, 4, 2)
	d, want := lossy(t, j)
	was := d.Copy()
	all := rebuild.Missing(d, j)
	for range 2 {
		tells(t, all, want...)
		for stop := range 4 {
			var got []api.Found
			for f := range all {
				if len(got) == stop {
					break
				}
				got = append(got, f)
			}
			if !slices.Equal(got, want[:min(stop, 3)]) {
				t.Errorf("left behind %d: %+v", stop, got)
			}
		}
		for range all {
			tells(t, all, want...)
		}
	}
	untouched(t, "Missing", d, was)
}

// P12.2: Missing tells what there is when one begins to go over it: not what there was when it was asked for, and not what becomes of it meanwhile.
func TestMissingWhileTheDeviceChanges(t *testing.T) {
	j := of(2, 4, 2)
	d, want := lossy(t, j)
	all := rebuild.Missing(d, j)
	var got []api.Found
	for f := range all {
		got = append(got, f)
		if len(got) > 1 {
			continue
		}
		rebuilt(t, d, j, 1, 1, 3)
		tear(t, d, j, 0)
		tells(t, all, nought(0))
		spoil(t, d, j, 1)
		tells(t, all)
	}
	if !slices.Equal(got, want) {
		t.Errorf("%+v, not %+v", got, want)
	}
	tells(t, all) // a head is none
	lay(t, d, headAt(t, j, 1), api.Sector{})
	tells(t, all, nought(0))
	rebuilt(t, d, j, 0, 1, 1)
	tells(t, all)

	fresh := rebuild.Missing(d, j)
	r := recordOf(0, 1, 2, 2, 4)
	layRecord(t, d, j, r)
	tells(t, fresh, logged(r))
	tells(t, all, logged(r))
}

// A look does nothing that a cut would count, and tells the same behind one.
func TestLooksDoNothing(t *testing.T) {
	j := of(2, 4, 2)
	d, want := lossy(t, j)
	was := d.Copy()
	if e := d.Cut(0); e != api.OK {
		t.Fatal(e)
	}
	for range 2 {
		best(t, d, j, append([]api.Found{in(0, version(9, 'p'))}, want...)...)
		records(t, d, j, 0, recordOf(0, 1, 1, 3, 7))
		place(t, d, j, 0, version(9, 'p'), true)
	}
	if !d.Whole() {
		t.Error("a look wrote something")
	}
	untouched(t, "looks", d, was)
}
