package view_test

import (
	"math"
	"math/rand"
	"slices"
	"testing"

	"millpond/api"
	"millpond/view"
)

// member is what Members tells at once.
type member struct {
	node  int
	epoch int64
}

// gone is what Members goes over, at most so many.
func gone(v api.View, many int) []member {
	var l []member
	for node, epoch := range view.Members(v) {
		if l = append(l, member{node, epoch}); len(l) == many {
			break
		}
	}
	return l
}

// listed is a view's members by its array alone; none of one that may not be.
func listed(v api.View) []member {
	var l []member
	if !mayByWords(v) {
		return nil
	}
	for node, m := range v.Members {
		if m.In {
			l = append(l, member{node, m.Epoch})
		}
	}
	return l
}

// looks fails unless all looks at a view tell what its array says.
func looks(t *testing.T, v api.View) {
	t.Helper()
	l := listed(v)
	if got := view.Count(v); got != len(l) {
		t.Errorf("Count(%+v): %d", v, got)
	}
	if got := gone(v, -1); !slices.Equal(got, l) {
		t.Errorf("Members(%+v): %v", v, got)
	}
	for node := range api.MaxNodes {
		for _, epoch := range append(epochs, 0, -1, v.Members[node].Epoch-1, v.Members[node].Epoch, v.Members[node].Epoch+1) {
			if got := view.Is(v, node, epoch); got != slices.Contains(l, member{node, epoch}) {
				t.Errorf("Is(%+v, %d, %d): %v", v, node, epoch, got)
			}
		}
	}
	masters(t, v, l)
}

// masters fails unless each page has the master that the members' places tell.
func masters(t *testing.T, v api.View, l []member) {
	t.Helper()
	for _, page := range []int{-1, 0, 1, 2, 3, 4, 5, 6, 7, 8, 9, 14, 15, 16, 17, 1000, 1 << 31, 1<<32 + 3, math.MaxInt - 1, math.MaxInt, math.MinInt, math.MinInt + 1, -api.MaxPages} {
		want, there := 0, page >= 0 && len(l) > 0
		if there {
			want = l[page%len(l)].node
		}
		if got, ok := view.Master(v, page); got != want || ok != there {
			t.Errorf("Master(%+v, %d): %d, %v; not %d, %v", v, page, got, ok, want, there)
		}
	}
	for pages := -1; pages <= api.MaxPages+1; pages++ {
		for node := -1; node <= api.MaxNodes; node++ {
			var want []int
			for page := 0; page < pages && pages <= api.MaxPages && len(l) > 0; page++ {
				if l[page%len(l)].node == node {
					want = append(want, page)
				}
			}
			if got := view.Pages(v, node, pages); !slices.Equal(got, want) {
				t.Errorf("Pages(%+v, %d, %d): %v; not %v", v, node, pages, got, want)
			}
		}
	}
}

// P9.3: all looks at views at the bounds and between.
func TestLooks(t *testing.T) {
	for _, v := range some() {
		looks(t, v)
	}
}

// P9.3: of a view that may not be nothing, and false.
func TestLooksAtWrongViews(t *testing.T) {
	for _, v := range wrong() {
		if view.Count(v) != 0 || gone(v, -1) != nil || view.Members(v) == nil {
			t.Errorf("%+v has members", v)
		}
		for node := range api.MaxNodes {
			if view.Is(v, node, v.Members[node].Epoch) || view.Is(v, node, 1) || view.Is(v, node, 0) {
				t.Errorf("the node %d is in %+v", node, v)
			}
			if l := view.Pages(v, node, api.MaxPages); len(l) > 0 {
				t.Errorf("the node %d has the pages %v of %+v", node, l, v)
			}
		}
		for page := range api.MaxPages {
			if m, ok := view.Master(v, page); m != 0 || ok {
				t.Errorf("the page %d has the master %d in %+v", page, m, v)
			}
		}
	}
}

// P9.3: numbers that are written out.
func TestLooksByHand(t *testing.T) {
	v := of(4, true, 6, 1, 5, 3, 2, 6, 9)
	if view.Count(v) != 3 || !slices.Equal(gone(v, -1), []member{{1, 5}, {3, 2}, {6, 9}}) {
		t.Errorf("%d members: %v", view.Count(v), gone(v, -1))
	}
	for page, want := range []int{1, 3, 6, 1, 3, 6, 1} {
		if m, ok := view.Master(v, page); m != want || !ok {
			t.Errorf("Master(%d): %d, %v", page, m, ok)
		}
	}
	for node, want := range map[int][]int{1: {0, 3, 6, 9, 12, 15}, 3: {1, 4, 7, 10, 13}, 6: {2, 5, 8, 11, 14}, 0: nil, 2: nil, 7: nil} {
		if l := view.Pages(v, node, 16); !slices.Equal(l, want) {
			t.Errorf("Pages(%d): %v", node, l)
		}
	}
	if l := view.Pages(v, 6, 3); !slices.Equal(l, []int{2}) {
		t.Error(l)
	}
	if l := view.Pages(v, 6, 2); len(l) != 0 {
		t.Error(l)
	}
	if m, ok := view.Master(v, math.MaxInt); m != 3 || !ok { // 2^63 - 1 is 1 modulo 3
		t.Errorf("Master of the greatest page: %d, %v", m, ok)
	}
	if !view.Is(v, 3, 2) || view.Is(v, 3, 1) || view.Is(v, 3, 3) || view.Is(v, 2, 0) || view.Is(v, 2, 2) || view.Is(v, 1, 2) {
		t.Error("Is")
	}
}

// P9.3: nodes that are none, numbers of pages that are none, far from the bounds too.
func TestLooksAtWhatIsNone(t *testing.T) {
	for _, v := range []api.View{first, of(1, false, 0, 0, 1), full(6, true)} {
		for _, n := range wrongNodes {
			for _, epoch := range []int64{0, 1, api.MaxEpoch} {
				if view.Is(v, n, epoch) {
					t.Errorf("the node %d is in %+v", n, v)
				}
			}
			for pages := range api.MaxPages + 1 {
				if l := view.Pages(v, n, pages); len(l) > 0 {
					t.Errorf("the node %d has %v", n, l)
				}
			}
			if n == api.MaxNodes || n == api.MaxNodes+1 || n == 15 || n == 16 { // they are numbers of pages
				continue
			}
			for node := range api.MaxNodes {
				if l := view.Pages(v, node, n); len(l) > 0 {
					t.Errorf("of %d pages the node %d has %v", n, node, l)
				}
			}
		}
		for node := range api.MaxNodes {
			for _, epoch := range wrongEpochs {
				if view.Is(v, node, epoch) {
					t.Errorf("the node %d is in by %d", node, epoch)
				}
			}
		}
	}
}

// P9.3: Members left at each place, gone over once more, and within itself.
func TestMembersLeftEarly(t *testing.T) {
	for _, v := range some() {
		all := gone(v, -1)
		goes := view.Members(v)
		for many := 1; many <= len(all); many++ {
			var l []member
			for node, epoch := range goes {
				if l = append(l, member{node, epoch}); len(l) == many {
					break
				}
			}
			if !slices.Equal(l, all[:many]) {
				t.Errorf("%d of Members(%+v): %v", many, v, l)
			}
		}
		pairs := 0
		for range goes {
			for range goes {
				pairs++
			}
		}
		if pairs != len(all)*len(all) {
			t.Errorf("Members(%+v) within itself: %d", v, pairs)
		}
	}
}

// P9.3: what Pages answers is the caller's.
func TestPagesAreTheCallers(t *testing.T) {
	v := full(6, true)
	l := view.Pages(v, 1, 16)
	l[0] = 99
	_ = append(l[:1], 98)
	if l := view.Pages(v, 1, 16); !slices.Equal(l, []int{1, 9}) {
		t.Error(l)
	}
}

// P9.3, P9.4: each page has one master, a member; the shares of the members differ by one at most; of each set of members.
func TestEachPageHasOneMaster(t *testing.T) {
	for in := 1; in < 256; in++ {
		v := api.View{Number: 1, Founder: -1}
		for node := range api.MaxNodes {
			if in>>node&1 == 1 {
				v.Members[node] = api.Member{In: true, Epoch: 1}
				v.Founder = node
			}
		}
		for pages := range api.MaxPages + 1 {
			owned := make([]int, pages)
			var shares []int
			for node := range api.MaxNodes {
				l := view.Pages(v, node, pages)
				if !slices.IsSorted(l) || len(l) > 0 && !v.Members[node].In {
					t.Errorf("Pages(%+v, %d, %d): %v", v, node, pages, l)
				}
				for _, page := range l {
					owned[page]++
					if m, ok := view.Master(v, page); m != node || !ok {
						t.Errorf("Master(%+v, %d): %d, %v", v, page, m, ok)
					}
				}
				if v.Members[node].In {
					shares = append(shares, len(l))
				}
			}
			if slices.Max(shares)-slices.Min(shares) > 1 || slices.ContainsFunc(owned, func(n int) bool { return n != 1 }) {
				t.Errorf("%+v: of %d pages %v, owned %v", v, pages, shares, owned)
			}
		}
	}
}

// P9.3: any views, those that may not be too.
func TestLooksAtAnyViews(t *testing.T) {
	r := rand.New(rand.NewSource(94))
	for range 5000 {
		if looks(t, near(r)); t.Failed() {
			return
		}
	}
}
