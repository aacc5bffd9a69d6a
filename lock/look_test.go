package lock_test

import (
	"slices"
	"testing"

	"millpond/api"
	"millpond/lock"
)

// some are locks in each situation, and in the midst of each kind of wish.
func some(t *testing.T) []*lock.Lock {
	t.Helper()
	l := []*lock.Lock{lock.New()}
	for _, s := range []string{free, alone, owned, several, single, keeper} {
		l = append(l, situation(t, s))
		for _, call := range []string{"want 1 shared", "want 1 exclusive", "want 4 exclusive", "clean 1", "clean 4"} {
			busy := situation(t, s)
			asks(busy, call)
			longer := busy.Copy()
			for _, more := range []string{"want 7 exclusive", "clean 0", "want 2 shared"} {
				asks(longer, more)
			}
			l = append(l, busy, longer)
		}
	}
	return append(l, of(chain...))
}

// P13.1, P13.2: a nil lock, and a zero one, in each call.
func TestNone(t *testing.T) {
	for _, l := range []*lock.Lock{nil, {}, new(lock.Lock)} {
		for range 2 {
			for node := -1; node <= api.MaxNodes; node++ {
				told := [][]api.Order{l.Want(node, api.Shared), l.Want(node, api.Exclusive), l.Want(node, 0), l.Clean(node)}
				for op := int64(-1); op <= 2; op++ {
					told = append(told, l.Gone(node, op), l.Got(node, op), l.Release(node, op), l.Wrote(node, op, 0), l.Wrote(node, op, -1), l.Wrote(node, op, api.MaxStamp))
				}
				for _, orders := range told {
					if len(orders) != 0 {
						t.Errorf("%+v", orders)
					}
				}
				if how, ok := l.Holds(node); how != 0 || ok {
					t.Errorf("Holds(%d): %d, %v", node, how, ok)
				}
			}
			if b := l.Book(); !alike(b, api.Book{Exclusive: -1, Owner: -1}) {
				t.Errorf("%+v", b)
			}
			if !l.Idle() || l.Copy() != nil {
				t.Errorf("Idle %v, Copy %v", l.Idle(), l.Copy())
			}
		}
		if !lock.Same(l, nil) || !lock.Same(nil, l) || !lock.Same(l, &lock.Lock{}) || !lock.Same(&lock.Lock{}, l) || !lock.Same(l, l) {
			t.Error("two of none are not the same")
		}
		for _, other := range some(t) {
			if lock.Same(l, other) || lock.Same(other, l) {
				t.Errorf("none is the same as %+v", other.Book())
			}
		}
	}
}

// P13.2: a new lock is one that nobody holds.
func TestNew(t *testing.T) {
	a, b := lock.New(), lock.New()
	says(t, a, api.Book{Exclusive: -1, Owner: -1})
	if !lock.Same(a, b) || !lock.Same(a, a) {
		t.Error("two new ones are not the same")
	}
	plays(t, a, "want 0 exclusive: grant 1 exclusive to 0")
	stands(t, b, "")
}

// P13.2: what Book answers is the caller's, and stays as it was.
func TestBooksAreTheCallers(t *testing.T) {
	for _, l := range some(t) {
		was, before := l.Book(), l.Copy()
		for _, list := range [][]int{l.Book().Shared, l.Book().Past} {
			for place := range list {
				list[place] = 99
			}
			_ = append(list, 98)
		}
		line := l.Book().Line
		for place := range line {
			line[place] = api.Wish{Node: 99, Kind: 99}
		}
		_ = append(line, api.Wish{Node: 98, Kind: 98})
		if says(t, l, was); !lock.Same(l, before) {
			t.Errorf("%+v is another one", l.Book())
		}
		kept, copied := l.Book(), l.Book()
		kept.Shared, kept.Past, kept.Line = slices.Clone(kept.Shared), slices.Clone(kept.Past), slices.Clone(kept.Line)
		for _, call := range []string{"want 3 shared", "clean 5", "got 1 4", "got 4 4", "wrote 4 3 1", "release 4 3", "gone 2 4", "gone 6 4", "want 0 exclusive", "clean 6"} {
			asks(l, call)
		}
		if !alike(kept, copied) {
			t.Errorf("%+v became %+v", kept, copied)
		}
	}
}

// P13.2: Holds of nodes that may not be is nothing.
func TestHoldsOfNoNodes(t *testing.T) {
	for _, l := range some(t) {
		for _, node := range nodes[api.MaxNodes:] {
			if how, ok := l.Holds(node); how != 0 || ok {
				t.Errorf("Holds(%d): %d, %v", node, how, ok)
			}
		}
	}
}
