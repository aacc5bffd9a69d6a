package lock_test

import (
	"fmt"
	"testing"

	"millpond/api"
	"millpond/lock"
)

// P13.2: locks that differ in one thing alone are not the same.
func TestSame(t *testing.T) {
	kept := []string{"want 1 exclusive", "got 1 1", "want 2 shared", "got 2 2", "release 2 2"}
	for _, c := range []struct {
		what string
		a, b *lock.Lock
		want [2]string
	}{
		{"how it is held", of("want 1 shared", "got 1 1", "want 1 exclusive", "got 1 2"), of(kept...), [2]string{"1!2 owner 1 op 2", "1=2 owner 1 op 2"}},
		{"who holds it shared", of("want 1 shared", "got 1 1"), of("want 2 shared", "got 2 1"), [2]string{"1=1 op 1", "2=1 op 1"}},
		{"whether one more holds it", situation(t, several), of("want 4 exclusive", "got 4 1", "want 2 shared", "got 2 2", "want 6 shared", "got 6 3", "wrote 4 3 7", "release 6 3"), [2]string{several, "2=2 4=3 op 3"}},
		{"by which numbers", of("want 1 shared", "got 1 1", "want 2 shared", "got 2 2", "want 3 shared", "got 3 3"), of("want 2 shared", "got 2 1", "want 3 shared", "got 3 2", "want 1 shared", "got 1 3"), [2]string{"1=3 2=2 3=3 op 3", "1=3 2=3 3=2 op 3"}},
		{"whether there is an owner", situation(t, owned), situation(t, several), [2]string{owned, several}},
		{"who is the owner", of("want 1 exclusive", "got 1 1", "want 2 shared", "got 2 2"), of("want 2 exclusive", "got 2 1", "want 1 shared", "got 1 2"), [2]string{"1=2 2=2 owner 1 op 2", "1=2 2=2 owner 2 op 2"}},
		{"pasts", of(chain...), of(append(chain, "wrote 1 3 5")...), [2]string{"1!3 owner 1 past 3 5 op 3", "1!3 owner 1 op 3"}},
		{"which pasts", of("want 5 exclusive", "got 5 1", "want 1 exclusive", "got 1 2"), of("want 3 exclusive", "got 3 1", "want 1 exclusive", "got 1 2"), [2]string{"1!2 owner 1 past 5 op 2", "1!2 owner 1 past 3 op 2"}},
		{"how long the line is", of("want 1 shared", "want 2 shared"), of("want 1 shared"), [2]string{"line 2s hand 1s op 1", "hand 1s op 1"}},
		{"the line's order", of("want 1 shared", "want 2 shared", "want 3 shared"), of("want 1 shared", "want 3 shared", "want 2 shared"), [2]string{"line 2s 3s hand 1s op 1", "line 3s 2s hand 1s op 1"}},
		{"a kind in the line", of("want 1 shared", "want 2 shared"), of("want 1 shared", "want 2 exclusive"), [2]string{"line 2s hand 1s op 1", "line 2x hand 1s op 1"}},
		{"the node in hand", of("want 1 shared"), of("want 2 shared"), [2]string{"hand 1s op 1", "hand 2s op 1"}},
		{"the kind in hand", of("want 1 shared"), of("want 1 exclusive"), [2]string{"hand 1s op 1", "hand 1x op 1"}},
		{"whether something is in hand", of("want 1 shared", "got 1 1", "want 1 exclusive"), of("want 1 shared", "got 1 1", "want 1 shared"), [2]string{"1=1 hand 1x op 2", "1=1 op 2"}},
		{"the greatest number", of("clean 1"), of("clean 1", "clean 1"), [2]string{"op 1", "op 2"}},
		{"a new one's number", lock.New(), of("clean 1"), [2]string{"", "op 1"}},
		{"the number in hand", of("want 1 shared"), of("clean 1", "want 1 shared"), [2]string{"hand 1s op 1", "hand 1s op 2"}},
	} {
		stands(t, c.a, c.want[0])
		stands(t, c.b, c.want[1])
		if lock.Same(c.a, c.b) || lock.Same(c.b, c.a) {
			t.Errorf("%s: the same", c.what)
		}
		if !lock.Same(c.a, c.a) || !lock.Same(c.b, c.b.Copy()) || !lock.Same(c.a.Copy(), c.a) {
			t.Errorf("%s: not the same as it is", c.what)
		}
	}
}

// P13.2: locks that came to one book by other ways are the same, also where they wait for others: that is no part of the book.
func TestSameByOtherWays(t *testing.T) {
	a := of("want 6 exclusive", "got 6 1", "want 3 shared", "got 3 2", "want 5 shared", "got 5 3", "want 3 exclusive", "wrote 6 3 1")
	b := of("want 6 exclusive", "got 6 1", "want 3 shared", "got 3 2", "want 5 shared", "got 5 3", "wrote 6 3 1", "want 3 exclusive")
	stands(t, a, "3=2 5=3 6=3 hand 3x op 4")
	stands(t, b, "3=2 5=3 6=3 hand 3x op 4")
	if !lock.Same(a, b) || !lock.Same(b, a) {
		t.Error("two that have one book are not the same")
	}
	plays(t, a, "gone 6 4:", "gone 5 4: drop 4 to 6", "gone 6 4: grant 4 exclusive to 3")
	plays(t, b, "gone 6 4:", "gone 5 4: grant 4 exclusive to 3")

	a = of("want 1 shared", "got 1 1", "want 2 shared", "got 2 2", "want 1 shared")
	b = of("want 2 shared", "got 2 1", "want 1 shared", "got 1 2", "clean 7")
	stands(t, a, "1=2 2=2 op 3")
	if stands(t, b, "1=2 2=2 op 3"); !lock.Same(a, b) {
		t.Error("not the same")
	}
	if plays(t, a, "want 3 shared: share 4 for 3 to 1"); lock.Same(a, b) {
		t.Error("the same")
	}
	if plays(t, b, "want 3 shared: share 4 for 3 to 1"); !lock.Same(a, b) {
		t.Error("not the same")
	}
}

// P13.2: what a copy is asked changes nothing of the other one, and what that is asked nothing of the copy.
func TestCopy(t *testing.T) {
	calls := []string{"want 3 shared", "want 5 exclusive", "clean 3", "got 1 4", "got 4 4", "gone 2 4", "gone 6 4", "gone 4 4", "release 4 3", "release 4 4", "release 2 2", "wrote 4 3 9", "want 1 shared"}
	for _, l := range some(t) {
		for _, call := range calls {
			c := l.Copy()
			was := l.Book()
			if says(t, c, was); !lock.Same(c, l) {
				t.Fatalf("%+v and its copy %+v", l.Book(), c.Book())
			}
			twin := l.Copy()
			told := asks(c, call)
			says(t, l, was)
			if !lock.Same(l, twin) {
				t.Fatalf("%s: it changed the other one", call)
			}
			then := c.Book()
			if again := asks(twin, call); fmt.Sprint(again) != fmt.Sprint(told) || !lock.Same(twin, c) {
				t.Fatalf("%s: %+v, and of the copy %+v", call, told, again)
			}
			for _, other := range calls {
				asks(twin, other)
			}
			says(t, l, was)
			says(t, c, then)
		}
	}
}

// P13.2: lines of each length go on apart, with room behind them and without.
func TestCopysLine(t *testing.T) {
	kinds := []api.WishKind{api.WishShared, api.WishExclusive, api.WishClean}
	for many := range 3 * (api.MaxNodes - 2) {
		l := of("want 0 exclusive")
		want := book("hand 0x op 1")
		for place := range many {
			w := api.Wish{Node: 2 + place/3, Kind: kinds[place%3]}
			wishes(l, w)
			want.Line = append(want.Line, w)
		}
		a, b := l.Copy(), l.Copy()
		c := a.Copy()
		for node, one := range []*lock.Lock{l, a, b, c} { // each adds others, one behind the other
			one.Want(node%2, api.Shared)
			one.Clean(node / 2)
		}
		for node, one := range []*lock.Lock{l, a, b, c} {
			mine := want
			mine.Line = append(append([]api.Wish{}, want.Line...), api.Wish{Node: node % 2, Kind: api.WishShared}, api.Wish{Node: node / 2, Kind: api.WishClean})
			says(t, one, mine)
		}
	}
}

// P13.2: a copy's line, of which some were begun, goes on apart.
func TestCopysLineThatWasBegun(t *testing.T) {
	l := of("want 0 exclusive", "want 1 shared", "want 2 shared", "want 3 shared", "got 0 1")
	c := l.Copy()
	plays(t, l, "got 1 2: share 3 for 2 to 0", "want 4 shared:", "want 5 shared:", "want 6 shared:")
	stands(t, c, "0!1 owner 0 line 2s 3s hand 1s op 2")
	plays(t, c, "want 7 exclusive:", "clean 7:", "got 1 2: share 3 for 2 to 0", "got 2 3: share 4 for 3 to 0")
	stands(t, l, "0=2 1=2 owner 0 line 3s 4s 5s 6s hand 2s op 3")
	stands(t, c, "0=3 1=2 2=3 owner 0 line 7x 7c hand 3s op 4")
}
