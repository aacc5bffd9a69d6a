package directory_test

import (
	"testing"

	"millpond/api"
	"millpond/directory"
)

// P14.4: directories that differ in one page, or in one thing of one page's book, are not the same.
func TestSame(t *testing.T) {
	two := []int{1, 4}
	for _, c := range []struct {
		what string
		a, b *directory.Directory
	}{
		{"a page", made(t, 1, 4), made(t, 1, 5)},
		{"the first page", made(t, 0, 4), made(t, 1, 4)},
		{"a page more", made(t, 1, 4), made(t, 1, 4, 5)},
		{"a page ahead", made(t, 1, 4), made(t, 0, 1, 4)},
		{"all pages", made(t, 1), made(t)},
		{"one of all pages", made(t, every()...), made(t, every()[1:]...)},
		{"where it is in hand", of(t, two, "want 1 0 shared"), of(t, two, "want 4 0 shared")},
		{"whether it is in hand", of(t, two, "want 1 0 shared"), made(t, two...)},
		{"whether it is done", of(t, two, "want 4 0 shared"), of(t, two, "want 4 0 shared", "got 4 0 1")},
		{"how it is held", of(t, two, "want 4 0 shared", "got 4 0 1"), of(t, two, "want 4 0 exclusive", "got 4 0 1")},
		{"who holds it", of(t, two, "want 4 0 shared", "got 4 0 1"), of(t, two, "want 4 1 shared", "got 4 1 1")},
		{"which is held", of(t, two, "want 4 0 shared", "got 4 0 1"), of(t, two, "want 1 0 shared", "got 1 0 1")},
		{"the line", of(t, two, "want 1 0 shared", "want 1 2 shared"), of(t, two, "want 1 0 shared", "want 1 2 exclusive")},
		{"the pasts", of(t, two, "want 1 0 exclusive", "got 1 0 1", "want 1 2 exclusive", "got 1 2 2"), of(t, two, "want 1 0 exclusive", "got 1 0 1", "want 1 2 exclusive", "got 1 2 2", "wrote 1 2 2 5")},
		{"the greatest number", of(t, two, "clean 4 1"), made(t, two...)},
	} {
		if directory.Same(c.a, c.b) || directory.Same(c.b, c.a) {
			t.Errorf("%s: the same", c.what)
		}
		if !directory.Same(c.a, c.a) || !directory.Same(c.b, c.b.Copy()) || !directory.Same(c.a.Copy(), c.a) {
			t.Errorf("%s: not the same as it is", c.what)
		}
	}
}

// P14.4: neither the order in which New was told the pages, nor that of calls of unlike pages, is a part of it.
func TestSameByOtherWays(t *testing.T) {
	if !directory.Same(made(t, 1, 4, 9), made(t, 9, 1, 4)) || !directory.Same(made(t, every()...), made(t, 15, 14, 13, 12, 11, 10, 9, 8, 7, 6, 5, 4, 3, 2, 1, 0)) {
		t.Error("not the same by the order of the pages")
	}
	a := of(t, []int{1, 4}, "want 1 0 shared", "got 1 0 1", "want 4 3 exclusive", "got 4 3 1")
	b := of(t, []int{4, 1}, "want 4 3 exclusive", "want 1 0 shared", "got 4 3 1", "got 1 0 1")
	if !directory.Same(a, b) || !directory.Same(b, a) {
		t.Error("not the same by the order of calls")
	}
}

// P14.4: pages that are told apart by their number alone, where all books are alike.
func TestSameOfEachPage(t *testing.T) {
	for one := range api.MaxPages {
		for other := range api.MaxPages {
			a, b := made(t, one), made(t, other)
			if directory.Same(a, b) != (one == other) {
				t.Errorf("%d, %d", one, other)
			}
		}
	}
}

// P14.4: what a copy is asked changes nothing of the other one, and what that is asked nothing of the copy, nor of a copy of a copy.
func TestCopy(t *testing.T) {
	d, pages, lines := busy(t)
	for page := range api.MaxPages {
		for _, word := range words {
			a, b := d.Copy(), d.Copy().Copy()
			for node := range api.MaxNodes {
				for op := int64(1); op < 6; op++ {
					call{word, page, node, api.Exclusive, op, 3}.of(a)
				}
			}
			if !directory.Same(d, b) {
				t.Fatalf("%s of the page %d of a copy changed the other one", word, page)
			}
		}
	}
	stands(t, d, pages, lines...)
	c := d.Copy()
	for page := range api.MaxPages {
		for node := range api.MaxNodes {
			d.Want(page, node, api.Exclusive)
			d.Got(page, node, 2)
			d.Release(page, node, 9)
		}
	}
	if stands(t, c, pages, lines...); directory.Same(c, d) {
		t.Error("the same")
	}
}

// P14.4: a copy waits for what the other one waits for, and its line goes on apart.
func TestCopyGoesOn(t *testing.T) {
	d := of(t, []int{6}, "want 6 0 exclusive", "got 6 0 1", "want 6 1 shared", "got 6 1 2", "want 6 2 exclusive", "want 6 3 shared")
	c := d.Copy()
	plays(t, c, "want 6 4 shared:", "gone 6 1 3: yield 3 for 2 to 0", "got 6 2 3: share 4 for 3 to 2")
	plays(t, d, "want 6 5 exclusive:", "gone 6 1 3: yield 3 for 2 to 0", "got 6 2 3: share 4 for 3 to 2", "got 6 3 4: drop 5 to 3")
	plays(t, c, "got 6 3 4: share 5 for 4 to 2", "got 6 4 5:")
}

// P14.4: a copy of one that has no pages is there, and is the same.
func TestCopyOfNoPages(t *testing.T) {
	d := made(t)
	c := d.Copy()
	if c == nil || c == d || !directory.Same(c, d) || directory.Same(c, nil) {
		t.Error("a copy of no pages")
	}
	if _, e := c.Want(0, 0, api.Shared); e != api.ErrNone {
		t.Error(e)
	}
}
