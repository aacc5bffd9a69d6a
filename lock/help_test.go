package lock_test

import (
	"reflect"
	"slices"
	"strconv"
	"strings"
	"testing"

	"millpond/api"
	"millpond/lock"
)

// number is a word as a number.
func number(word string) int64 {
	n, e := strconv.ParseInt(word, 10, 64)
	if e != nil {
		panic("no number: " + word)
	}
	return n
}

// mode is a word as a mode.
func mode(word string) api.Mode {
	return map[string]api.Mode{"shared": api.Shared, "exclusive": api.Exclusive}[word]
}

// asks does a call that is told by words: want 1 shared, clean 1, gone 1 3, got 1 3, release 1 3, wrote 1 3 9.
func asks(l *lock.Lock, call string) []api.Order {
	w := strings.Fields(call)
	node := int(number(w[1]))
	switch w[0] {
	case "want":
		return l.Want(node, mode(w[2]))
	case "clean":
		return l.Clean(node)
	case "gone":
		return l.Gone(node, number(w[2]))
	case "got":
		return l.Got(node, number(w[2]))
	case "release":
		return l.Release(node, number(w[2]))
	case "wrote":
		return l.Wrote(node, number(w[2]), number(w[3]))
	}
	panic("no call: " + call)
}

// wishes asks for what a wish is for.
func wishes(l *lock.Lock, w api.Wish) []api.Order {
	switch w.Kind {
	case api.WishShared:
		return l.Want(w.Node, api.Shared)
	case api.WishExclusive:
		return l.Want(w.Node, api.Exclusive)
	}
	return l.Clean(w.Node)
}

// order is one that is told by words: grant 1 shared to 2, share 1 for 3 to 2, yield 1 for 3 to 2, drop 1 to 2, flush 1 to 2, discard 9 to 2.
func order(words string) api.Order {
	w := strings.Fields(words)
	o := api.Order{To: int(number(w[len(w)-1]))}
	if w[0] == "discard" {
		o.Kind, o.PSN = api.OrderDiscard, number(w[1])
		return o
	}
	o.Op = number(w[1])
	o.Kind = map[string]api.OrderKind{"grant": api.OrderGrant, "share": api.OrderShare, "yield": api.OrderYield, "drop": api.OrderDrop, "flush": api.OrderFlush}[w[0]]
	switch o.Kind {
	case api.OrderGrant:
		o.Mode = mode(w[2])
	case api.OrderShare, api.OrderYield:
		o.Node = int(number(w[3]))
	case 0:
		panic("no order: " + words)
	}
	return o
}

// orders are those that are told by words, with commas between.
func orders(words string) []api.Order {
	var l []api.Order
	for _, one := range strings.Split(words, ",") {
		if strings.TrimSpace(one) != "" {
			l = append(l, order(one))
		}
	}
	return l
}

// plays does calls, each with the orders that it is to tell behind a colon.
func plays(t *testing.T, l *lock.Lock, lines ...string) *lock.Lock {
	t.Helper()
	for _, line := range lines {
		call, words, _ := strings.Cut(line, ":")
		if got := asks(l, call); !slices.Equal(got, orders(words)) {
			t.Fatalf("%s: %+v", line, got)
		}
	}
	return l
}

// of is a new lock behind calls, whatever they tell.
func of(calls ...string) *lock.Lock {
	l := lock.New()
	for _, call := range calls {
		asks(l, call)
	}
	return l
}

// wish is one that is told by a word: 1s, 1x, 1c.
func wish(word string) api.Wish {
	kinds := map[byte]api.WishKind{'s': api.WishShared, 'x': api.WishExclusive, 'c': api.WishClean}
	return api.Wish{Node: int(number(word[:1])), Kind: kinds[word[1]]}
}

// book is one that is told by words: 1=2 (the node 1 holds it shared, by 2), 1!2 (exclusively), owner 1, past 1, line 1s, hand 1x, op 3; what is not named is nothing.
func book(words string) api.Book {
	b := api.Book{Exclusive: -1, Owner: -1}
	under := ""
	for _, w := range strings.Fields(words) {
		switch {
		case strings.Contains("owner past line hand op", w) && w[0] > '9':
			under = w
		case len(w) > 1 && (w[1] == '=' || w[1] == '!'):
			node := int(number(w[:1]))
			b.Ops[node] = number(w[2:])
			if w[1] == '!' {
				b.Exclusive = node
			} else {
				b.Shared = append(b.Shared, node)
			}
		case under == "owner":
			b.Owner = int(number(w))
		case under == "past":
			b.Past = append(b.Past, int(number(w)))
		case under == "line":
			b.Line = append(b.Line, wish(w))
		case under == "hand":
			b.Hand, b.Busy = wish(w), true
		case under == "op":
			b.Op = number(w)
		default:
			panic("no book: " + words)
		}
	}
	return b
}

// alike tells whether two books are the same; nil and empty lists are one.
func alike(a, b api.Book) bool {
	for _, x := range []*api.Book{&a, &b} {
		x.Shared, x.Past, x.Line = append([]int{}, x.Shared...), append([]int{}, x.Past...), append([]api.Wish{}, x.Line...)
	}
	return reflect.DeepEqual(a, b)
}

// stands fails unless the lock's book is that one, and Holds and Idle say the same.
func stands(t *testing.T, l *lock.Lock, words string) {
	t.Helper()
	says(t, l, book(words))
}

// says fails unless Book, Holds and Idle say what that book does.
func says(t *testing.T, l *lock.Lock, want api.Book) {
	t.Helper()
	if got := l.Book(); !alike(got, want) {
		t.Fatalf("the book %+v, not %+v", got, want)
	}
	if l.Idle() == want.Busy {
		t.Fatalf("Idle: %v beside %+v", l.Idle(), want)
	}
	for node := -1; node <= api.MaxNodes; node++ {
		var how api.Mode
		if node >= 0 && node == want.Exclusive {
			how = api.Exclusive
		} else if slices.Contains(want.Shared, node) {
			how = api.Shared
		}
		if got, ok := l.Holds(node); got != how || ok != (how != 0) {
			t.Fatalf("Holds(%d): %d, %v beside %+v", node, got, ok, want)
		}
	}
}

// nothing fails if one of the calls tells something, or changes the lock.
func nothing(t *testing.T, l *lock.Lock, calls ...string) {
	t.Helper()
	was, before := l.Book(), l.Copy()
	for _, call := range calls {
		if got := asks(l, call); len(got) != 0 {
			t.Fatalf("%s: %+v", call, got)
		}
		if says(t, l, was); !lock.Same(l, before) {
			t.Fatalf("%s: another one than before", call)
		}
	}
}

// The situations that wishes meet; each one's greatest number is 3.
const (
	free    = "op 3"
	alone   = "4!3 owner 4 op 3"
	owned   = "2=2 4=3 6=3 owner 4 op 3"
	several = "2=2 4=3 6=3 op 3"
	single  = "4=2 op 3"
	keeper  = "4=3 owner 4 op 3"
)

// situation is a lock that stands so.
func situation(t *testing.T, words string) *lock.Lock {
	t.Helper()
	shared := []string{"want 4 exclusive", "got 4 1", "want 2 shared", "got 2 2", "want 6 shared", "got 6 3"}
	l := of(map[string][]string{
		free:    {"want 4 shared", "got 4 1", "release 4 1", "clean 1", "clean 1"},
		alone:   {"clean 1", "clean 1", "want 4 exclusive", "got 4 3"},
		owned:   shared,
		several: append(slices.Clone(shared), "wrote 4 3 7"),
		single:  {"clean 1", "want 4 shared", "got 4 2", "clean 1"},
		keeper:  append(slices.Clone(shared), "release 2 2", "release 6 3"),
	}[words]...)
	stands(t, l, words)
	return l
}
