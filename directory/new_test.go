package directory_test

import (
	"math/rand"
	"slices"
	"testing"

	"millpond/api"
	"millpond/directory"
)

// P14.1: pages at their bounds and just beyond, also behind ones that may be.
func TestPagesThatMayNotBe(t *testing.T) {
	for _, page := range fars {
		for _, pages := range [][]int{{page}, {0, page}, {page, 0}, {3, page, 5}, {page, page}} {
			if d, e := directory.New(pages...); d != nil || e != api.ErrArg {
				t.Errorf("New(%v): %v, %v", pages, d, e)
			}
		}
	}
	for page := range api.MaxPages {
		says(t, made(t, page), alone(page))
	}
}

// P14.1: a page that is there twice, next to itself and apart, or more often.
func TestPagesThatAreThereTwice(t *testing.T) {
	for page := range api.MaxPages {
		other, third := (page+1)%api.MaxPages, (page+5)%api.MaxPages
		for _, pages := range [][]int{
			{page, page}, {page, page, other}, {other, page, page}, {page, other, page},
			{page, other, third, page}, {third, page, other, page}, {page, page, page},
		} {
			if d, e := directory.New(pages...); d != nil || e != api.ErrArg {
				t.Errorf("New(%v): %v, %v", pages, d, e)
			}
		}
		says(t, made(t, page, other, third), alone(page, other, third))
	}
	all := every()
	if d, e := directory.New(append(all, 7)...); d != nil || e != api.ErrArg {
		t.Errorf("all and one more: %v, %v", d, e)
	}
}

// every is all pages that there may be.
func every() []int {
	var l []int
	for page := range api.MaxPages {
		l = append(l, page)
	}
	return l
}

// P14.1: of none it is one that has no pages, and is there.
func TestNoPages(t *testing.T) {
	for _, d := range []*directory.Directory{made(t), made(t, nil...), made(t, []int{}...)} {
		says(t, d, locks{})
		if directory.Same(d, nil) || !directory.Same(d, made(t)) {
			t.Error("one of no pages is no nil one")
		}
	}
}

// P14.1: any pages in any order: nobody holds them, and each is begun by the number 1.
func TestAnyPages(t *testing.T) {
	r := rand.New(rand.NewSource(141))
	for range 300 {
		pages := r.Perm(api.MaxPages)[:r.Intn(api.MaxPages+1)]
		d, want := made(t, pages...), alone(pages...)
		if says(t, d, want); !directory.Same(d, made(t, slices.Sorted(slices.Values(pages))...)) {
			t.Fatalf("New(%v) is another one by the order", pages)
		}
		for page := range api.MaxPages {
			l, e := d.Want(page, 2, api.Exclusive)
			if is := slices.Contains(pages, page); is != (e == api.OK) || !is && (e != api.ErrNone || l != nil) {
				t.Fatalf("New(%v): Want(%d): %v, %v", pages, page, l, e)
			} else if is && !slices.Equal(l, orders(page, "grant 1 exclusive to 2")) {
				t.Fatalf("New(%v): Want(%d): %v", pages, page, l)
			}
		}
	}
	says(t, made(t, every()...), alone(every()...))
}

// P14.1: what is handed in stays as it was, and what is done to it then changes nothing.
func TestWhatIsHandedIn(t *testing.T) {
	pages := []int{9, 2, 15, 0, 7}
	was := slices.Clone(pages)
	d := made(t, pages[:3]...)
	if !slices.Equal(pages, was) {
		t.Errorf("%v", pages)
	}
	pages[0], pages[1], pages[2] = 3, 3, 99
	says(t, d, alone(9, 2, 15))
	if plays(t, d, "want 9 1 shared: grant 1 shared to 1"); !slices.Equal(pages, []int{3, 3, 99, 0, 7}) {
		t.Errorf("%v", pages)
	}
	stands(t, d, []int{9, 2, 15}, "want 9 1 shared")
}

// P14.1: two that were made of the same pages go on apart.
func TestTwoGoOnApart(t *testing.T) {
	a, b := made(t, 1, 2), made(t, 1, 2)
	plays(t, a, "want 1 3 exclusive: grant 1 exclusive to 3")
	says(t, b, alone(1, 2))
	plays(t, b, "want 1 5 shared: grant 1 shared to 5")
	stands(t, a, []int{1, 2}, "want 1 3 exclusive")
}
