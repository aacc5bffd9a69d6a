package lock_test

import (
	"fmt"
	"math"
	"testing"

	"millpond/api"
	"millpond/lock"
)

// numbers are those that are not in hand, where 4 is.
var numbers = []int64{0, 1, 2, 3, 5, -4, -1, 4 + 1<<32, api.MaxNumber, math.MaxInt64, math.MinInt64}

// nodes are all that may be, and some that may not.
var nodes = []int{0, 1, 2, 3, 4, 5, 6, 7, -1, api.MaxNodes, api.MaxNodes + 1, 1 << 32, 1<<32 + 1, math.MaxInt, math.MinInt}

// saying is a call of each node but some, with that number.
func saying(word string, op int64, but ...int) []string {
	var l []string
nodes:
	for _, node := range nodes {
		for _, b := range but {
			if b == node {
				continue nodes
			}
		}
		l = append(l, fmt.Sprint(word, " ", node, " ", op))
	}
	return l
}

// P13.1: Got of others, with other numbers, while something else is waited for, with nothing in hand, twice: nothing.
func TestGotThatNobodyWaitsFor(t *testing.T) {
	for _, s := range []string{free, alone, owned, several, single, keeper} {
		l := situation(t, s)
		for _, op := range append(numbers, 4) {
			nothing(t, l, saying("got", op)...)
		}
		asks(l, "want 1 shared")
		nothing(t, l, saying("got", 4, 1)...)
		for _, op := range numbers {
			nothing(t, l, saying("got", op)...)
		}
		nothing(t, l, saying("gone", 4)...)
		plays(t, l, "got 1 4:")
		nothing(t, l, saying("got", 4)...)

		l = situation(t, s)
		asks(l, "clean 1")
		nothing(t, l, saying("got", 4)...)
		nothing(t, l, saying("gone", 4)...)
	}
	l := situation(t, owned)
	plays(t, l, "want 1 exclusive: drop 4 to 2, drop 4 to 6")
	nothing(t, l, saying("got", 4)...)
	plays(t, l, "gone 2 4:")
	nothing(t, l, saying("got", 4)...)
	plays(t, l, "gone 6 4: yield 4 for 1 to 4")
	nothing(t, l, saying("got", 4, 1)...)
	plays(t, l, "got 1 4:")
}

// P13.1: Gone of others, with other numbers, with nothing in hand, twice: nothing.
func TestGoneThatNobodyWaitsFor(t *testing.T) {
	for _, s := range []string{free, alone, owned, several, single, keeper} {
		l := situation(t, s)
		for _, op := range append(numbers, 4) {
			nothing(t, l, saying("gone", op)...)
		}
	}
	l := situation(t, owned)
	plays(t, l, "want 1 exclusive: drop 4 to 2, drop 4 to 6")
	for _, op := range numbers {
		nothing(t, l, saying("gone", op)...)
	}
	nothing(t, l, saying("gone", 4, 2, 6)...)
	plays(t, l, "gone 6 4:")
	stands(t, l, "2=2 4=3 owner 4 hand 1x op 4")
	nothing(t, l, saying("gone", 4, 2)...)
	plays(t, l, "gone 2 4: yield 4 for 1 to 4")
	nothing(t, l, saying("gone", 4)...)
	plays(t, l, "got 1 4:")
	nothing(t, l, saying("gone", 4)...)
}

// P13.1: each one that waits in vain counts but once, in whatever order the Gones come.
func TestGonesInAnyOrder(t *testing.T) {
	for _, order := range [][]int{{0, 3, 5}, {0, 5, 3}, {3, 0, 5}, {3, 5, 0}, {5, 0, 3}, {5, 3, 0}} {
		l := of("want 1 exclusive", "got 1 1", "want 0 shared", "got 0 2", "want 3 shared", "got 3 3", "want 5 shared", "got 5 4")
		plays(t, l, "want 7 exclusive: drop 5 to 0, drop 5 to 3, drop 5 to 5")
		for place, node := range order {
			call := fmt.Sprint("gone ", node, " 5")
			if place < 2 {
				plays(t, l, call+":")
			} else {
				plays(t, l, call+": yield 5 for 7 to 1")
			}
			nothing(t, l, call)
		}
		plays(t, l, "got 7 5:")
		stands(t, l, "7!5 owner 7 past 1 op 5")
	}
}

// P13.1: the owner writes the page back while others are dropped: then it is one to be dropped too, or a supplier as any other one.
func TestWroteWhileOthersAreDropped(t *testing.T) {
	l := situation(t, owned) // who asks holds it: nobody supplies any more
	plays(t, l, "want 2 exclusive: drop 4 to 6", "wrote 4 3 7:", "gone 6 4: drop 4 to 4")
	stands(t, l, "2=2 4=3 hand 2x op 4")
	nothing(t, l, "gone 6 4", "gone 2 4", "got 2 4")
	plays(t, l, "gone 4 4: grant 4 exclusive to 2", "got 2 4:")
	stands(t, l, "2!4 owner 2 op 4")

	l = situation(t, owned) // who asks does not: the lowest one that is left is the one that supplied
	plays(t, l, "want 1 exclusive: drop 4 to 2, drop 4 to 6", "wrote 4 3 7:", "gone 6 4:", "gone 2 4: yield 4 for 1 to 4", "got 1 4:")
	stands(t, l, "1!4 owner 1 op 4")

	l = situation(t, owned) // who asks is the owner: it may have written it, and holds it yet
	plays(t, l, "want 4 exclusive: drop 4 to 2, drop 4 to 6", "wrote 4 3 7:", "gone 6 4:", "gone 2 4: grant 4 exclusive to 4", "got 4 4:")
	stands(t, l, "4!4 owner 4 op 4")

	l = situation(t, owned) // by another number it stays the owner
	plays(t, l, "want 2 exclusive: drop 4 to 6", "wrote 4 2 7:", "gone 6 4: yield 4 for 2 to 4", "got 2 4:")
	stands(t, l, "2!4 owner 2 past 4 op 4")
}

// P13.1: behind the Got of a Yield a supplier that wrote the page back meanwhile, and held it shared, is no past: it was no owner any more; one that held it exclusively was the owner yet.
func TestWroteWhileThePageIsSent(t *testing.T) {
	l := situation(t, keeper)
	plays(t, l, "want 1 exclusive: yield 4 for 1 to 4", "wrote 4 3 7:")
	stands(t, l, "4=3 hand 1x op 4")
	plays(t, l, "got 1 4:")
	stands(t, l, "1!4 owner 1 op 4")

	l = situation(t, alone)
	plays(t, l, "want 1 exclusive: yield 4 for 1 to 4", "wrote 4 3 7:")
	stands(t, l, "4!3 owner 4 hand 1x op 4")
	plays(t, l, "got 1 4:")
	stands(t, l, "1!4 owner 1 past 4 op 4")

	l = situation(t, keeper)
	plays(t, l, "want 1 shared: share 4 for 1 to 4", "wrote 4 3 7:", "got 1 4:")
	stands(t, l, "1=4 4=4 op 4")
}

// P13.1: nodes, modes and versions at their bounds and just beyond.
func TestBounds(t *testing.T) {
	l := situation(t, owned)
	was := l.Copy()
	for _, node := range nodes[api.MaxNodes:] {
		for _, m := range []api.Mode{api.Shared, api.Exclusive} {
			if len(l.Want(node, m)) != 0 {
				t.Errorf("Want of %d", node)
			}
		}
		if len(l.Clean(node)) != 0 || len(l.Wrote(node, 3, 1)) != 0 {
			t.Errorf("Clean or Wrote of %d", node)
		}
	}
	for _, m := range []api.Mode{0, 3, -1, 1 << 32, 1<<32 + 1, math.MaxInt, math.MinInt} {
		if len(l.Want(1, m)) != 0 {
			t.Errorf("Want in the mode %d", m)
		}
	}
	for _, psn := range []int64{-1, api.MaxStamp + 1, 1 << 32, math.MaxInt64, math.MinInt64} {
		if len(l.Wrote(4, 3, psn)) != 0 {
			t.Errorf("Wrote of %d", psn)
		}
	}
	if !lock.Same(l, was) {
		t.Errorf("%+v", l.Book())
	}
	stands(t, l, owned)
	for _, s := range []string{free, alone, owned, several, single, keeper} {
		l = situation(t, s)
		for op := range int64(5) {
			nothing(t, l, saying("release", op, 0, 1, 2, 3, 4, 5, 6, 7)...)
		}
	}
	for _, psn := range []int64{0, 1, api.MaxStamp - 1, api.MaxStamp} {
		l = of("want 0 exclusive", "got 0 1", "want 7 exclusive", "got 7 2")
		plays(t, l, fmt.Sprintf("wrote 7 2 %d: discard %d to 0", psn, psn))
		stands(t, l, "7!2 owner 7 op 2")
	}
}
