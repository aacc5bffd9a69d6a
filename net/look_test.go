package net_test

import (
	"slices"
	"testing"

	"millpond/api"
	"millpond/net"
)

// P7.3: To tells rising numbers, also behind doubles, losses and deliveries; of a node that is none nothing.
func TestToRises(t *testing.T) {
	n := made(t, 4)
	want := [4][]int64{}
	for number := int64(1); number <= 60; number++ {
		from, to := int(number%4), int(number/4%3)
		if from == to {
			to = 3
		}
		send(t, n, from, to, "x", number)
		want[to] = append(want[to], number)
	}
	next := int64(61)
	for _, number := range []int64{1, 30, 60, 2} {
		l, _ := n.Look(number)
		doubled(t, n, number, next)
		want[l.To] = append(want[l.To], next)
		next++
	}
	for _, number := range []int64{4, 59, 61, 17} {
		l, _ := n.Look(number)
		drop(t, n, number)
		want[l.To] = slices.DeleteFunc(want[l.To], func(k int64) bool { return k == number })
	}
	for to, numbers := range want {
		if got := n.To(to); !slices.Equal(got, numbers) || !slices.IsSorted(got) || len(got) == 0 {
			t.Errorf("To(%d): %v, not %v", to, got, numbers)
		}
	}
	for _, to := range []int{-1, 4, 5, 7, 8, 1 << 32} {
		if got := n.To(to); len(got) != 0 {
			t.Errorf("To(%d): %v", to, got)
		}
	}
}

// P7.3: Clear tells how many were; a second one none.
func TestClear(t *testing.T) {
	for many := range 5 {
		n := made(t, 2)
		for i := range many {
			send(t, n, 0, 1, "x", int64(i)+1)
		}
		if got := n.Clear(); got != many {
			t.Errorf("Clear of %d: %d", many, got)
		}
		for number := range int64(many) + 2 {
			nowhere(t, n, number)
		}
		if got := n.Clear(); got != 0 {
			t.Errorf("Clear of none: %d", got)
		}
		stands(t, n, int64(many))
	}
}

// P7.3: All may be left anywhere, and gone through again, by one and the same function.
func TestAllIsLeftAnywhere(t *testing.T) {
	n, all := five(t)
	was, over := n.Copy(), n.All()
	for many := range len(all) + 1 {
		var got []api.Letter
		if many > 0 {
			for l := range over {
				if got = append(got, l); len(got) == many {
					break
				}
			}
		}
		if !slices.EqualFunc(got, all[:many], alike) {
			t.Errorf("the first %d: %v", many, got)
		}
	}
	asked := 0
	over(func(api.Letter) bool { asked++; return asked < 3 })
	if asked != 3 {
		t.Errorf("it went on %d times behind being left at the third", asked)
	}
	if got := slices.Collect(over); !slices.EqualFunc(got, all, alike) {
		t.Errorf("gone through again: %v", got)
	}
	unchanged(t, "going over it", n, was)
	stands(t, n, 5, all...)
}

// P7.3: All within All, and All of a net without letters.
func TestAllWithinAll(t *testing.T) {
	n, all := five(t)
	over, outer := n.All(), 0
	for range over {
		if outer++; !slices.EqualFunc(slices.Collect(over), all, alike) {
			t.Error("an inner one goes over others")
		}
	}
	if outer != len(all) {
		t.Errorf("the outer one went over %d", outer)
	}
	for _, empty := range []*net.Net{nil, {}, made(t, 1)} {
		for l := range empty.All() {
			t.Errorf("%v is on its way", l)
		}
	}
}

// P7.3: it goes over letters as they are when it begins, not when All is called, nor as they become meanwhile.
func TestAllAsTheyAreWhenItBegins(t *testing.T) {
	changes := changes()
	changes["Drop of the first"] = func(n *net.Net) { n.Drop(1) }
	changes["Clear and more"] = func(n *net.Net) {
		n.Clear()
		for range 9 {
			n.Send(2, 0, []byte("other"))
		}
	}
	for name, change := range changes {
		for when := range 5 {
			n, all := five(t)
			over := n.All()
			var got []api.Letter
			for l := range over {
				if len(got) == when {
					change(n)
				}
				got = append(got, l)
			}
			if !slices.EqualFunc(got, all, alike) {
				t.Errorf("%s at %d: it went over %v", name, when, got)
			}
			if slices.EqualFunc(told(n), all, alike) {
				t.Errorf("%s at %d changed nothing", name, when)
			}
			if again := slices.Collect(over); !slices.EqualFunc(again, told(n), alike) || len(again) != n.Len() {
				t.Errorf("%s at %d: gone through again it tells %v, not %v", name, when, again, told(n))
			}
		}
	}
}

// P7.3: a function that All told ahead of a change goes over what is there when it begins.
func TestAllBeginsWhenItIsGoneOver(t *testing.T) {
	n := made(t, 2)
	over := n.All()
	send(t, n, 0, 1, "late", 1)
	if got := slices.Collect(over); !slices.EqualFunc(got, []api.Letter{letter(1, 0, 1, "late")}, alike) {
		t.Errorf("it goes over %v", got)
	}
	n.Clear()
	if got := slices.Collect(over); len(got) != 0 {
		t.Errorf("behind Clear it goes over %v", got)
	}
}

// P7.3: whoever goes over letters may deliver each one, as a round does.
func TestDeliverWhileGoingOver(t *testing.T) {
	n, all := five(t)
	for l := range n.All() {
		deliver(t, n, l)
		send(t, n, 2, 0, "answer", 5+l.Number)
	}
	var answers []api.Letter
	for _, l := range all {
		answers = append(answers, letter(5+l.Number, 2, 0, "answer"))
	}
	stands(t, n, 10, answers...)
}
