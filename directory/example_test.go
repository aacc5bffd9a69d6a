package directory_test

import (
	"slices"
	"testing"

	"millpond/api"
	"millpond/directory"
)

// P14.1, P14.2, P14.3: the chapter's examples.
func TestExamples(t *testing.T) {
	for _, pages := range [][]int{{3, 3}, {16}} {
		if d, e := directory.New(pages...); d != nil || e != api.ErrArg {
			t.Errorf("New(%v): %v, %v", pages, d, e)
		}
	}
	d := made(t, 1, 4)
	plays(t, d, "want 1 0 shared: grant 1 shared to 0")
	if l, e := d.Want(2, 0, api.Shared); l != nil || e != api.ErrNone {
		t.Errorf("%v, %v", l, e)
	}
	if l, e := d.Want(16, 0, api.Shared); l != nil || e != api.ErrArg {
		t.Errorf("%v, %v", l, e)
	}
	plays(t, d, "got 1 0 1:")
	if got := gathered(d.Held(0)); !slices.Equal(got, []pair{{1, "1"}}) {
		t.Errorf("%v", got)
	}
	plays(t, d, "release 1 0 1:")
	if got := gathered(d.Held(0)); got != nil {
		t.Errorf("%v", got)
	}
	if b, is := d.Book(1); !is || b.Op != 1 {
		t.Errorf("%+v, %v", b, is)
	}
}

// P14.2, P14.3, P14.4: what README.md shows.
func TestReadme(t *testing.T) {
	d := made(t, 1, 4)
	plays(t, d, "want 1 0 shared: grant 1 shared to 0", "got 1 0 1:")
	if _, e := d.Want(2, 0, api.Shared); e != api.ErrNone {
		t.Error(e)
	}
	plays(t, d, "want 4 0 exclusive: grant 1 exclusive to 0")
	if d.Idle() {
		t.Error("the page 4 is in hand")
	}
	held := d.Held(0)
	c := d.Copy()
	plays(t, d, "got 4 0 1:")
	if directory.Same(c, d) {
		t.Error("the same")
	}
	if got := gathered(held); !slices.Equal(got, []pair{{1, "1"}}) {
		t.Errorf("%v", got)
	}
	if got := gathered(d.Held(0)); !slices.Equal(got, []pair{{1, "1"}, {4, "2"}}) {
		t.Errorf("%v", got)
	}
	if b, is := d.Book(4); !is || b.Exclusive != 0 || !d.Idle() {
		t.Errorf("%+v, %v", b, is)
	}
}
