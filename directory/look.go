package directory

import (
	"iter"

	"millpond/api"
	"millpond/lock"
)

// Book is a page's, if the directory has that page.
func (d *Directory) Book(page int) (api.Book, bool) {
	if d.none() || d.locks[page] == nil {
		return api.Book{}, false
	}
	return d.locks[page].Book(), true
}

// Pages goes over the pages, with their books.
func (d *Directory) Pages() iter.Seq2[int, api.Book] {
	return asItIs(d, func(l *lock.Lock) (api.Book, bool) { return l.Book(), true })
}

// Held goes over the pages that a node holds, and how.
func (d *Directory) Held(node int) iter.Seq2[int, api.Mode] {
	return asItIs(d, func(l *lock.Lock) (api.Mode, bool) { return l.Holds(node) })
}

// asItIs goes over the pages of which there is something to be told. A copy is gone over, since the directory may go on meanwhile; each time its locks are asked anew, since what was told is the caller's.
func asItIs[T any](d *Directory, tell func(*lock.Lock) (T, bool)) iter.Seq2[int, T] {
	was := d.Copy()
	return func(yield func(int, T) bool) {
		for page, l := range was.rising() {
			if what, is := tell(l); is && !yield(page, what) {
				return
			}
		}
	}
}

// rising goes over the locks in the order of their pages.
func (d *Directory) rising() iter.Seq2[int, *lock.Lock] {
	return func(yield func(int, *lock.Lock) bool) {
		if d.none() {
			return
		}
		for page := range api.MaxPages {
			if l, is := d.locks[page]; is && !yield(page, l) {
				return
			}
		}
	}
}

// Idle tells whether nothing is in hand of any page.
func (d *Directory) Idle() bool {
	for _, l := range d.rising() {
		if !l.Idle() {
			return false
		}
	}
	return true
}

// Copy is another one that goes on apart.
func (d *Directory) Copy() *Directory {
	if d.none() {
		return nil
	}
	locks := map[int]*lock.Lock{}
	for page, l := range d.rising() {
		locks[page] = l.Copy()
	}
	return &Directory{locks}
}

// Same tells whether two have the same pages, with the same books.
func Same(a, b *Directory) bool {
	if a.none() || b.none() {
		return a.none() && b.none()
	}
	if len(a.locks) != len(b.locks) {
		return false
	}
	for page, l := range a.rising() {
		if !lock.Same(l, b.locks[page]) {
			return false
		}
	}
	return true
}
