package directory_test

import (
	"slices"
	"testing"

	"millpond/api"
	"millpond/directory"
)

// busy is a directory of some pages, in the midst of several things, and the calls that led there.
func busy(t *testing.T) (*directory.Directory, []int, []string) {
	pages := []int{12, 0, 5, 15, 3}
	lines := []string{
		"want 0 1 exclusive", "got 0 1 1", "want 0 2 shared", "got 0 2 2",
		"want 3 1 exclusive", "got 3 1 1", "want 3 4 exclusive", "got 3 4 2", "clean 3 1", "want 3 6 shared", "want 3 1 exclusive",
		"want 12 1 shared", "got 12 1 1", "want 12 2 shared",
		"want 15 1 exclusive", "got 15 1 1",
	}
	return of(t, pages, lines...), pages, lines
}

// P14.3: Book, Pages, Held and Idle ahead of, amidst and behind what is in hand, of one page and of several.
func TestLooking(t *testing.T) {
	d, pages, lines := busy(t)
	for many := range lines {
		stands(t, of(t, pages, lines[:many]...), pages, lines[:many]...)
	}
	stands(t, d, pages, lines...)
	if d.Idle() {
		t.Error("two things are in hand")
	}
	if got := gathered(d.Held(1)); !slices.Equal(got, []pair{{0, "1"}, {12, "1"}, {15, "2"}}) {
		t.Errorf("%v", got)
	}
	if plays(t, d, "got 12 2 2:"); d.Idle() {
		t.Error("one thing is in hand")
	}
	plays(t, d, "wrote 3 4 2 8: discard 8 to 1, share 4 for 6 to 4", "got 3 6 4: drop 5 to 6", "gone 3 6 5: yield 5 for 1 to 4")
	if d.Idle() {
		t.Error("one thing is in hand yet")
	}
	if plays(t, d, "got 3 1 5:"); !d.Idle() {
		t.Error("nothing is in hand")
	}
}

// P14.3: Idle is told by each page alone.
func TestIdle(t *testing.T) {
	for page := range api.MaxPages {
		d := made(t, every()...)
		if !d.Idle() {
			t.Error("a new one")
		}
		d.Want(page, 0, api.Shared)
		if d.Idle() {
			t.Errorf("the page %d is in hand", page)
		}
		d.Got(page, 0, 1)
		if !d.Idle() {
			t.Errorf("the page %d is in hand no more", page)
		}
	}
}

// left is how many pages are gone over, if one leaves behind so many.
func left[T any](all func(func(int, T) bool), many int) int {
	n := 0
	for range all {
		if n++; n == many {
			break
		}
	}
	return n
}

// P14.3: Pages and Held may be left behind each page, and gone over again, also one within the other.
func TestLeft(t *testing.T) {
	d, _, _ := busy(t)
	pages, held := d.Pages(), d.Held(1)
	books, modes := gathered(pages), gathered(held)
	if len(books) != 5 || len(modes) != 3 {
		t.Fatalf("%v, %v", books, modes)
	}
	for many := 1; many <= 5; many++ {
		if got := left(pages, many); got != many {
			t.Errorf("Pages: %d of %d", got, many)
		}
		if got := left(held, many); got != min(many, 3) {
			t.Errorf("Held: %d of %d", got, many)
		}
		if !slices.Equal(gathered(pages), books) || !slices.Equal(gathered(held), modes) {
			t.Error("not the same when gone over again")
		}
	}
	for range pages {
		for range held {
			if !slices.Equal(gathered(pages), books) || !slices.Equal(gathered(held), modes) {
				t.Error("not the same within one another")
			}
		}
	}
}

// P14.3: they tell how it was when they were called: whatever is done ahead of going over them, meanwhile and behind.
func TestAsItWasWhenCalled(t *testing.T) {
	d, pages, lines := busy(t)
	all, held, none := d.Pages(), d.Held(1), d.Held(6)
	books, modes := gathered(d.Pages()), gathered(d.Held(1))
	more := []string{"got 12 2 2", "want 5 6 exclusive", "got 5 6 1", "release 0 1 2", "wrote 3 4 2 8", "want 15 7 shared", "release 15 1 1", "clean 12 3"}
	for _, line := range more {
		told(line).of(d)
		if !slices.Equal(gathered(all), books) || !slices.Equal(gathered(held), modes) || gathered(none) != nil {
			t.Fatalf("%s: it changed what was called ahead of it", line)
		}
	}
	stands(t, d, pages, append(slices.Clone(lines), more...)...)

	d, _, _ = busy(t)
	place := 0
	for page, b := range d.Pages() {
		if got := (pair{page, text(b)}); got != books[place] {
			t.Errorf("%v, not %v", got, books[place])
		}
		told(more[place]).of(d)
		place++
	}
	for _, line := range more[place:] {
		told(line).of(d)
	}
	if place = 0; len(books) != 5 {
		t.Fatal("five pages")
	}
	stands(t, d, pages, append(slices.Clone(lines), more...)...)

	d, _, _ = busy(t)
	for page, how := range d.Held(1) {
		if got := (pair{page, text(how)}); got != modes[place] {
			t.Errorf("%v, not %v", got, modes[place])
		}
		for _, p := range pages {
			d.Release(p, 1, 1)
		}
		place++
	}
	if place != 3 || gathered(d.Held(1)) != nil {
		t.Errorf("%d gone over, and then %v", place, gathered(d.Held(1)))
	}
}

// P14.3: of a node that holds nothing, of one that only asked, and of one that had it.
func TestHeldOfNodes(t *testing.T) {
	d := of(t, []int{1, 4}, "want 1 0 shared", "got 1 0 1", "want 4 0 exclusive")
	if got := gathered(d.Held(0)); !slices.Equal(got, []pair{{1, "1"}}) {
		t.Errorf("%v", got)
	}
	plays(t, d, "got 4 0 1:", "want 4 2 shared: share 2 for 2 to 0")
	if got := gathered(d.Held(0)); !slices.Equal(got, []pair{{1, "1"}, {4, "2"}}) {
		t.Errorf("%v", got)
	}
	if got := gathered(d.Held(2)); got != nil {
		t.Errorf("it has only asked: %v", got)
	}
	plays(t, d, "got 4 2 2:", "want 4 2 exclusive: yield 3 for 2 to 0", "got 4 2 3:")
	if got := gathered(d.Held(0)); !slices.Equal(got, []pair{{1, "1"}}) {
		t.Errorf("%v", got)
	}
	if got := gathered(d.Held(2)); !slices.Equal(got, []pair{{4, "2"}}) {
		t.Errorf("%v", got)
	}
}

// spoil changes all that a book's lists have.
func spoil(b api.Book) {
	for _, list := range [][]int{b.Shared, b.Past} {
		for place := range list {
			list[place] = 99
		}
		_ = append(list, 98)
	}
	for place := range b.Line {
		b.Line[place] = api.Wish{Node: 99, Kind: 99}
	}
	_ = append(b.Line, api.Wish{Node: 98, Kind: 98})
}

// P14.3: books are the caller's: what is done to them changes neither the directory nor what is told next, and they stay as they were behind later calls.
func TestBooksAreTheCallers(t *testing.T) {
	d, pages, lines := busy(t)
	was, all := d.Copy(), d.Pages()
	books := gathered(all)
	for page, b := range all {
		spoil(b)
		got, _ := d.Book(page)
		spoil(got)
	}
	if !slices.Equal(gathered(all), books) || !directory.Same(d, was) {
		t.Error("what was told is kept")
	}
	stands(t, d, pages, lines...)

	var kept []api.Book
	for page := range d.Pages() {
		b, _ := d.Book(page)
		kept = append(kept, b)
	}
	for _, line := range []string{"got 12 2 2", "wrote 3 4 2 8", "want 3 0 shared", "got 3 6 4", "release 0 1 2", "release 0 2 2", "clean 5 1"} {
		told(line).of(d)
	}
	for place, b := range kept {
		if text(b) != books[place].what {
			t.Errorf("%+v, not %v", b, books[place])
		}
	}
}
