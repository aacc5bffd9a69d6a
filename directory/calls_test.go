package directory_test

import (
	"math"
	"math/rand"
	"slices"
	"strings"
	"testing"

	"millpond/api"
	"millpond/directory"
	"millpond/lock"
)

// P14.2, P14.3, P14.4: a nil directory, and a zero one, in each call: ErrNil ahead of all.
func TestNone(t *testing.T) {
	for _, d := range []*directory.Directory{nil, {}, new(directory.Directory)} {
		for range 2 {
			for _, page := range append(every(), fars...) {
				for _, word := range words {
					for node := -1; node <= api.MaxNodes; node++ {
						c := call{word: word, page: page, node: node, mode: api.Shared, op: 1, psn: 1}
						if l, e := c.of(d); l != nil || e != api.ErrNil {
							t.Errorf("%+v: %v, %v", c, l, e)
						}
					}
				}
			}
			says(t, d, locks{})
			if d.Copy() != nil {
				t.Error("a copy of none")
			}
		}
		for _, other := range []*directory.Directory{nil, {}, d} {
			if !directory.Same(d, other) || !directory.Same(other, d) {
				t.Error("two of none are not the same")
			}
		}
		for _, other := range []*directory.Directory{made(t), made(t, 0), made(t, every()...)} {
			if directory.Same(d, other) || directory.Same(other, d) {
				t.Error("none is the same as one that is there")
			}
		}
	}
}

// P14.2: of no pages each page is none of its own.
func TestCallsOfNoPages(t *testing.T) {
	refuses(t, made(t), every(), api.ErrNone)
	refuses(t, made(t), fars, api.ErrArg)
}

// refuses fails unless all calls of these pages tell that error, and nothing else, whatever else they are given, and change nothing.
func refuses(t *testing.T, d *directory.Directory, pages []int, want api.Errno) {
	t.Helper()
	was := d.Copy()
	for _, page := range pages {
		for _, word := range words {
			for _, node := range []int{0, 1, 4, 7, -1, 8, math.MaxInt} {
				for _, m := range []api.Mode{api.Shared, api.Exclusive, 0, 9} {
					for _, op := range []int64{0, 1, 2, -1, math.MaxInt64} {
						c := call{word, page, node, m, op, op}
						if l, e := c.of(d); l != nil || e != want {
							t.Fatalf("%+v: %v, %v", c, l, e)
						}
					}
				}
			}
		}
	}
	if !directory.Same(d, was) {
		t.Fatal("what is refused changed it")
	}
}

// P14.2: a page that it has not, and one that may not be: with nothing in hand, and in the midst.
func TestRefused(t *testing.T) {
	pages := []int{1, 4, 11}
	var others []int
	for page := range api.MaxPages {
		if !slices.Contains(pages, page) {
			others = append(others, page)
		}
	}
	for _, lines := range [][]string{
		nil,
		{"want 1 0 shared"},
		{"want 4 1 exclusive", "got 4 1 1", "want 4 2 shared", "want 4 3 exclusive", "clean 4 0"},
		{"want 4 1 exclusive", "got 4 1 1", "clean 4 0", "want 11 7 shared", "got 11 7 1"},
	} {
		d := of(t, pages, lines...)
		refuses(t, d, others, api.ErrNone)
		refuses(t, d, fars, api.ErrArg)
		stands(t, d, pages, lines...)
	}
}

// P14.2: each call, of each page, with each kind of order and with several at once.
func TestEachCall(t *testing.T) {
	for page := range api.MaxPages {
		d := made(t, every()...)
		run := []call{
			{"want", page, 4, api.Exclusive, 0, 0}, {"got", page, 4, 0, 1, 0},
			{"want", page, 2, api.Shared, 0, 0}, {"got", page, 2, 0, 2, 0},
			{"want", page, 6, api.Shared, 0, 0}, {"got", page, 6, 0, 3, 0},
			{"want", page, 1, api.Exclusive, 0, 0}, {"gone", page, 6, 0, 4, 0}, {"gone", page, 2, 0, 4, 0}, {"got", page, 1, 0, 4, 0},
			{"clean", page, 4, 0, 0, 0}, {"clean", page, 7, 0, 0, 0}, {"wrote", page, 1, 0, 4, 9}, {"release", page, 1, 0, 4, 0},
		}
		want := []string{
			"grant 1 exclusive to 4", "", "share 2 for 2 to 4", "", "share 3 for 6 to 4", "",
			"drop 4 to 2, drop 4 to 6", "", "yield 4 for 1 to 4", "",
			"flush 5 to 1", "", "discard 9 to 4, flush 6 to 1", "discard 2147483647 to 7",
		}
		for place, c := range run {
			if l, e := c.of(d); e != api.OK || !slices.Equal(l, orders(page, want[place])) {
				t.Fatalf("%+v: %+v, %v", c, l, e)
			}
		}
	}
}

// P14.2: nodes, modes, numbers and versions that a lock passes by: no order, and no error.
func TestPassedBy(t *testing.T) {
	d := of(t, []int{1, 4}, "want 4 1 exclusive", "got 4 1 1", "want 4 2 exclusive", "got 4 2 2", "want 1 3 shared")
	was := d.Copy()
	for _, page := range []int{1, 4} {
		var calls []call
		for _, node := range []int{-1, api.MaxNodes, 1 << 32, 1<<32 + 2, math.MaxInt, math.MinInt} {
			for _, word := range words {
				calls = append(calls, call{word, page, node, api.Shared, 2, 1}, call{word, page, node, api.Exclusive, 1, 1})
			}
		}
		for _, m := range []api.Mode{0, 3, -1, 1<<32 + 1, math.MaxInt, math.MinInt} {
			calls = append(calls, call{"want", page, 2, m, 0, 0}, call{"want", page, 5, m, 0, 0})
		}
		for _, psn := range []int64{-1, api.MaxStamp + 1, 1 << 32, math.MaxInt64, math.MinInt64} {
			calls = append(calls, call{"wrote", page, 2, 0, 2, psn}, call{"wrote", page, 3, 0, 1, psn})
		}
		for _, op := range []int64{0, -1, 3, 1<<32 + 1, math.MaxInt64, math.MinInt64} {
			for node := range api.MaxNodes {
				calls = append(calls, call{"got", page, node, 0, op, 0}, call{"gone", page, node, 0, op, 0})
			}
		}
		for _, c := range calls {
			if l, e := c.of(d); len(l) != 0 || e != api.OK {
				t.Fatalf("%+v: %+v, %v", c, l, e)
			}
			if !directory.Same(d, was) {
				t.Fatalf("%+v changed something", c)
			}
		}
	}
}

// P14.2: what was told is the caller's, and stays as it was.
func TestOrdersAreTheCallers(t *testing.T) {
	d := of(t, []int{3}, "want 3 4 exclusive", "got 3 4 1", "want 3 2 shared", "got 3 2 2", "want 3 6 shared", "got 3 6 3")
	l, _ := d.Want(3, 1, api.Exclusive)
	want := orders(3, "drop 4 to 2, drop 4 to 6")
	was := d.Copy()
	plays(t, d, "gone 3 2 4:", "gone 3 6 4: yield 4 for 1 to 4", "got 3 1 4:")
	if !slices.Equal(l, want) {
		t.Errorf("%+v", l)
	}
	l[0], l[1] = api.PageOrder{Page: 9}, api.PageOrder{Page: 8}
	_ = append(l, api.PageOrder{Page: 7})
	plays(t, was, "gone 3 2 4:", "gone 3 6 4: yield 4 for 1 to 4", "got 3 1 4:")
	if !directory.Same(d, was) {
		t.Error("another one, by what was told")
	}
}

// anyCall is one of one of these pages, most times one that a lock waits for.
func anyCall(r *rand.Rand, m locks, pages []int) call {
	c := call{word: words[r.Intn(len(words))], page: pages[r.Intn(len(pages))], node: r.Intn(5), psn: int64(r.Intn(9))}
	c.mode = []api.Mode{api.Shared, api.Exclusive}[r.Intn(2)]
	b := m[c.page].Book()
	switch c.op = b.Op; {
	case c.word == "got" && b.Busy && r.Intn(4) > 0:
		c.node = b.Hand.Node
	case c.word == "wrote" || c.word == "release":
		c.op = b.Ops[c.node]
	}
	switch r.Intn(40) {
	case 0:
		c.node = fars[r.Intn(len(fars))]
	case 1:
		c.mode = 0
	case 2:
		c.psn = -1
	case 3:
		c.op = int64(r.Intn(4))
	}
	return c
}

// both is a directory, and locks of its pages alone.
type both struct {
	d *directory.Directory
	m locks
}

// asked fails unless both answer the same; it answers what they do.
func (b both) asked(t *testing.T, c call) []api.PageOrder {
	t.Helper()
	got, e := c.of(b.d)
	var want []api.PageOrder
	for _, o := range c.alone(b.m[c.page]) {
		want = append(want, api.PageOrder{Page: c.page, Order: o})
	}
	if e != api.OK || !slices.Equal(got, want) {
		t.Fatalf("%+v: %+v, %v, not %+v", c, got, e, want)
	}
	return got
}

// P14.2, P14.3, P14.4, P14.5: any calls: all orders name the page that was asked, and are those of a lock of that page alone; no other page's book changes; a copy goes on apart.
func TestAnyCalls(t *testing.T) {
	r := rand.New(rand.NewSource(145))
	for range 300 {
		pages := r.Perm(api.MaxPages)[:1+r.Intn(5)]
		b := both{made(t, pages...), alone(pages...)}
		var kept []both
		for range 60 {
			c := anyCall(r, b.m, pages)
			was := b.m.copy()
			for _, o := range b.asked(t, c) {
				if o.Page != c.page {
					t.Fatalf("%+v: %+v", c, o)
				}
			}
			for page, l := range was {
				if now, _ := b.d.Book(page); page != c.page && !alike(now, l.Book()) {
					t.Fatalf("%+v: the page %d: %+v", c, page, now)
				}
			}
			if says(t, b.d, b.m); r.Intn(20) == 0 {
				kept = append(kept, both{b.d.Copy(), b.m.copy()})
			}
			if len(kept) > 0 {
				one := kept[r.Intn(len(kept))]
				one.asked(t, anyCall(r, one.m, pages))
			}
		}
		for _, one := range kept {
			says(t, one.d, one.m)
			if directory.Same(one.d, b.d) != sameLocks(one.m, b.m) {
				t.Fatal("Same of a copy that went on apart")
			}
		}
	}
}

// sameLocks tells whether all locks have the same books.
func sameLocks(a, b locks) bool {
	for page, l := range a {
		if !lock.Same(l, b[page]) {
			return false
		}
	}
	return len(a) == len(b)
}

// P14.5: in each situation of a page, calls of another one change nothing of it, and tell nothing of it.
func TestPagesApart(t *testing.T) {
	situations := [][]string{
		nil, {"want 2 0 shared"}, {"want 2 0 exclusive", "got 2 0 1"},
		{"want 2 0 exclusive", "got 2 0 1", "want 2 1 shared", "got 2 1 2", "want 2 3 exclusive"},
		{"want 2 0 exclusive", "got 2 0 1", "want 2 1 exclusive", "got 2 1 2", "clean 2 0", "want 2 3 shared"},
	}
	for _, s := range situations {
		d := of(t, []int{2, 3}, s...)
		was, _ := d.Book(2)
		var behind []string
		for _, line := range []string{
			"want 3 0 exclusive: grant 1 exclusive to 0", "got 3 0 1:", "want 3 1 shared: share 2 for 1 to 0", "got 3 1 2:",
			"want 3 3 exclusive: drop 3 to 1", "gone 3 1 3: yield 3 for 3 to 0", "got 3 3 3:", "clean 3 0: flush 4 to 3", "wrote 3 3 3 7: discard 7 to 0", "release 3 3 3:",
		} {
			plays(t, d, line)
			if now, is := d.Book(2); !is || !alike(now, was) {
				t.Fatalf("%s: %+v", line, now)
			}
			asked, _, _ := strings.Cut(line, ":")
			behind = append(behind, asked)
		}
		stands(t, d, []int{2, 3}, append(slices.Clone(s), behind...)...)
	}
}
