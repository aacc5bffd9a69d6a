package directory_test

import (
	"fmt"
	"iter"
	"maps"
	"math"
	"reflect"
	"slices"
	"strconv"
	"strings"
	"testing"

	"millpond/api"
	"millpond/directory"
	"millpond/lock"
)

// call is one of the six, of a page.
type call struct {
	word       string
	page, node int
	mode       api.Mode
	op, psn    int64
}

// of is what a directory answers it.
func (c call) of(d *directory.Directory) ([]api.PageOrder, api.Errno) {
	switch c.word {
	case "want":
		return d.Want(c.page, c.node, c.mode)
	case "clean":
		return d.Clean(c.page, c.node)
	case "gone":
		return d.Gone(c.page, c.node, c.op)
	case "got":
		return d.Got(c.page, c.node, c.op)
	case "release":
		return d.Release(c.page, c.node, c.op)
	case "wrote":
		return d.Wrote(c.page, c.node, c.op, c.psn)
	}
	panic("no call: " + c.word)
}

// alone is what a lock of one page alone answers it.
func (c call) alone(l *lock.Lock) []api.Order {
	switch c.word {
	case "want":
		return l.Want(c.node, c.mode)
	case "clean":
		return l.Clean(c.node)
	case "gone":
		return l.Gone(c.node, c.op)
	case "got":
		return l.Got(c.node, c.op)
	case "release":
		return l.Release(c.node, c.op)
	}
	return l.Wrote(c.node, c.op, c.psn)
}

// words are the six calls' names.
var words = []string{"want", "clean", "gone", "got", "release", "wrote"}

// number is a word as a number.
func number(word string) int64 {
	n, e := strconv.ParseInt(word, 10, 64)
	if e != nil {
		panic("no number: " + word)
	}
	return n
}

// mode is a word as a mode.
func mode(word string) api.Mode {
	return map[string]api.Mode{"shared": api.Shared, "exclusive": api.Exclusive}[word]
}

// told is a call that is told by words, its page first: want 4 1 shared, clean 4 1, gone 4 1 3, got 4 1 3, release 4 1 3, wrote 4 1 3 9.
func told(line string) call {
	w := strings.Fields(line)
	c := call{word: w[0], page: int(number(w[1])), node: int(number(w[2]))}
	switch c.word {
	case "want":
		c.mode = mode(w[3])
	case "wrote":
		c.op, c.psn = number(w[3]), number(w[4])
	case "gone", "got", "release":
		c.op = number(w[3])
	}
	return c
}

// order is one that is told by words: grant 1 shared to 2, share 1 for 3 to 2, yield 1 for 3 to 2, drop 1 to 2, flush 1 to 2, discard 9 to 2.
func order(line string) api.Order {
	w := strings.Fields(line)
	o := api.Order{To: int(number(w[len(w)-1])), Op: number(w[1])}
	switch w[0] {
	case "grant":
		o.Kind, o.Mode = api.OrderGrant, mode(w[2])
	case "share":
		o.Kind, o.Node = api.OrderShare, int(number(w[3]))
	case "yield":
		o.Kind, o.Node = api.OrderYield, int(number(w[3]))
	case "drop":
		o.Kind = api.OrderDrop
	case "flush":
		o.Kind = api.OrderFlush
	default:
		o.Kind, o.PSN, o.Op = api.OrderDiscard, o.Op, 0
	}
	return o
}

// orders are those of a page that are told by words, with commas between.
func orders(page int, line string) []api.PageOrder {
	var l []api.PageOrder
	for _, one := range strings.Split(line, ",") {
		if strings.TrimSpace(one) != "" {
			l = append(l, api.PageOrder{Page: page, Order: order(one)})
		}
	}
	return l
}

// plays does calls, each with the orders that it is to tell behind a colon.
func plays(t *testing.T, d *directory.Directory, lines ...string) *directory.Directory {
	t.Helper()
	for _, line := range lines {
		asked, answer, _ := strings.Cut(line, ":")
		c := told(asked)
		if got, e := c.of(d); e != api.OK || !slices.Equal(got, orders(c.page, answer)) {
			t.Fatalf("%s: %+v, %v", line, got, e)
		}
	}
	return d
}

// made is a directory of pages.
func made(t *testing.T, pages ...int) *directory.Directory {
	t.Helper()
	d, e := directory.New(pages...)
	if e != api.OK || d == nil {
		t.Fatalf("New(%v): %v", pages, e)
	}
	return d
}

// of is a directory of pages behind calls, whatever they tell.
func of(t *testing.T, pages []int, lines ...string) *directory.Directory {
	t.Helper()
	d := made(t, pages...)
	for _, line := range lines {
		if _, e := told(line).of(d); e != api.OK {
			t.Fatalf("%s: %v", line, e)
		}
	}
	return d
}

// alike tells whether two books are the same; nil and empty lists are one.
func alike(a, b api.Book) bool {
	for _, x := range []*api.Book{&a, &b} {
		x.Shared, x.Past, x.Line = append([]int{}, x.Shared...), append([]int{}, x.Past...), append([]api.Wish{}, x.Line...)
	}
	return reflect.DeepEqual(a, b)
}

// pair is a page, and what is told of it, as a text.
type pair struct {
	page int
	what string
}

// text is anything as a text; nil and empty lists are one there.
func text(what any) string { return fmt.Sprintf("%+v", what) }

// gathered is all that is gone over.
func gathered[T any](all iter.Seq2[int, T]) []pair {
	var l []pair
	for page, what := range all {
		l = append(l, pair{page, text(what)})
	}
	return l
}

// locks are of pages alone.
type locks map[int]*lock.Lock

// alone are locks of pages that nobody holds.
func alone(pages ...int) locks {
	m := locks{}
	for _, page := range pages {
		m[page] = lock.New()
	}
	return m
}

func (m locks) copy() locks {
	c := locks{}
	for page, l := range m {
		c[page] = l.Copy()
	}
	return c
}

// books are what Pages is to tell.
func (m locks) books() []pair {
	var l []pair
	for _, page := range slices.Sorted(maps.Keys(m)) {
		l = append(l, pair{page, text(m[page].Book())})
	}
	return l
}

// held is what Held is to tell of a node.
func (m locks) held(node int) []pair {
	var l []pair
	for _, page := range slices.Sorted(maps.Keys(m)) {
		if how, ok := m[page].Holds(node); ok {
			l = append(l, pair{page, text(how)})
		}
	}
	return l
}

func (m locks) idle() bool {
	for _, l := range m {
		if !l.Idle() {
			return false
		}
	}
	return true
}

// fars are numbers that are neither a page nor a node.
var fars = []int{-1, api.MaxPages, api.MaxPages + 1, -api.MaxPages, 1 << 32, 1<<32 + 1, 1<<32 + 4, math.MaxInt, math.MinInt}

// says fails unless Book, Pages, Held and Idle say what locks of the pages alone do.
func says(t *testing.T, d *directory.Directory, want locks) {
	t.Helper()
	for page := range api.MaxPages {
		b, is := d.Book(page)
		if l, ok := want[page]; is != ok || is && !alike(b, l.Book()) || !is && !alike(b, api.Book{}) {
			t.Fatalf("Book(%d): %+v, %v", page, b, is)
		}
	}
	for _, page := range fars {
		if b, is := d.Book(page); is || !alike(b, api.Book{}) {
			t.Fatalf("Book(%d): %+v, %v", page, b, is)
		}
	}
	if got := gathered(d.Pages()); !slices.Equal(got, want.books()) {
		t.Fatalf("Pages: %+v, not %+v", got, want.books())
	}
	for node := range api.MaxNodes {
		if got := gathered(d.Held(node)); !slices.Equal(got, want.held(node)) {
			t.Fatalf("Held(%d): %+v, not %+v", node, got, want.held(node))
		}
	}
	for _, node := range append([]int{api.MaxNodes}, fars...) {
		if got := gathered(d.Held(node)); len(got) != 0 {
			t.Fatalf("Held(%d): %+v", node, got)
		}
	}
	if d.Idle() != want.idle() {
		t.Fatalf("Idle: %v", d.Idle())
	}
}

// stands fails unless the directory is as locks of pages alone are behind those calls.
func stands(t *testing.T, d *directory.Directory, pages []int, lines ...string) {
	t.Helper()
	m := alone(pages...)
	for _, line := range lines {
		c := told(line)
		c.alone(m[c.page])
	}
	says(t, d, m)
}
