package net_test

import (
	"math"
	"slices"
	"testing"

	"millpond/api"
	"millpond/net"
)

// deliver fails unless just that letter is delivered.
func deliver(t *testing.T, n *net.Net, want api.Letter) {
	t.Helper()
	if l, e := n.Deliver(want.Number); !alike(l, want) || e != api.OK {
		t.Fatalf("Deliver(%d): %v, %v; not %v", want.Number, l, e, want)
	}
}

// drop fails unless that letter is lost.
func drop(t *testing.T, n *net.Net, number int64) {
	t.Helper()
	if e := n.Drop(number); e != api.OK {
		t.Fatalf("Drop(%d): %v", number, e)
	}
}

// doubled fails unless that letter is doubled, by that number.
func doubled(t *testing.T, n *net.Net, number, want int64) {
	t.Helper()
	if twin, e := n.Double(number); twin != want || e != api.OK {
		t.Fatalf("Double(%d): %d, %v; not %d", number, twin, e, want)
	}
}

// nowhere fails unless no letter of that number is on its way, whatever asks for it, and nothing changes by it.
func nowhere(t *testing.T, n *net.Net, number int64) {
	t.Helper()
	was := n.Copy()
	if l, e := n.Deliver(number); !alike(l, api.Letter{}) || e != api.ErrNone {
		t.Errorf("Deliver(%d): %v, %v", number, l, e)
	}
	if e := n.Drop(number); e != api.ErrNone {
		t.Errorf("Drop(%d): %v", number, e)
	}
	if twin, e := n.Double(number); twin != 0 || e != api.ErrNone {
		t.Errorf("Double(%d): %d, %v", number, twin, e)
	}
	if l, ok := n.Look(number); !alike(l, api.Letter{}) || ok {
		t.Errorf("Look(%d): %v, %v", number, l, ok)
	}
	unchanged(t, "what is nowhere", n, was)
}

// five is a net of three nodes with five letters on their way.
func five(t *testing.T) (*net.Net, []api.Letter) {
	t.Helper()
	n := made(t, 3)
	all := []api.Letter{letter(1, 0, 1, "a"), letter(2, 1, 0, "b"), letter(3, 2, 1, ""), letter(4, 0, 2, "a"), letter(5, 1, 2, "e")}
	for _, l := range all {
		send(t, n, l.From, l.To, string(l.Body), l.Number)
	}
	return n, all
}

// without is all letters but that at a place.
func without(all []api.Letter, place int) []api.Letter {
	return slices.Concat(all[:place], all[place+1:])
}

// P7.2, P7.5: whichever is delivered or dropped, it is on its way no more, and the others are, in their order.
func TestDeliverAndDropOfEach(t *testing.T) {
	for first := range 5 {
		for second := range 4 {
			for way := range 4 {
				n, all := five(t)
				for turn, place := range []int{first, second} {
					l := all[place]
					if way>>turn&1 == 0 {
						deliver(t, n, l)
					} else {
						drop(t, n, l.Number)
					}
					all = without(all, place)
					nowhere(t, n, l.Number)
					stands(t, n, 5, all...)
				}
				send(t, n, 0, 1, "on", 6)
				stands(t, n, 6, append(all, letter(6, 0, 1, "on"))...)
			}
		}
	}
}

// P7.2: numbers that never were, also of 0 and below, and far off.
func TestNumbersThatNeverWere(t *testing.T) {
	n, all := five(t)
	for _, number := range []int64{0, -1, -5, 6, 7, math.MaxInt64, math.MinInt64, 1 + 1<<32, 1<<8 + 1, api.MaxNumber} {
		nowhere(t, n, number)
	}
	stands(t, n, 5, all...)
	for _, number := range []int64{0, 1, -1} {
		nowhere(t, made(t, 8), number)
	}
}

// P7.2: another one with the same nodes and bytes is on its way, behind all others; the one goes on without the other.
func TestDoubleOfEach(t *testing.T) {
	for place := range 5 {
		n, all := five(t)
		twin := all[place]
		twin.Number = 6
		doubled(t, n, int64(place)+1, 6)
		stands(t, n, 6, append(all, twin)...)

		third := twin
		third.Number = 7
		doubled(t, n, 6, 7) // a double is doubled as any
		stands(t, n, 7, append(all, twin, third)...)

		deliver(t, n, all[place])
		nowhere(t, n, all[place].Number)
		rest := without(all, place)
		stands(t, n, 7, append(rest, twin, third)...)
		drop(t, n, 7)
		deliver(t, n, twin)
		nowhere(t, n, 6)
		stands(t, n, 7, rest...)
	}
}

// P7.5: numbers go on rising behind what is delivered, dropped and cleared, also where none is on its way any more.
func TestNumbersGoOn(t *testing.T) {
	n := made(t, 2)
	for number := int64(1); number < 40; number += 4 {
		send(t, n, 0, 1, "a", number)
		deliver(t, n, letter(number, 0, 1, "a"))
		stands(t, n, number)
		send(t, n, 1, 0, "b", number+1)
		drop(t, n, number+1)
		stands(t, n, number+1)
		send(t, n, 0, 1, "c", number+2)
		doubled(t, n, number+2, number+3)
		if many := n.Clear(); many != 2 {
			t.Errorf("Clear: %d", many)
		}
		stands(t, n, number+3)
		for gone := range number + 4 {
			nowhere(t, n, gone)
		}
	}
}

// P7.1, P7.2: a full net takes none more; it has room again behind each way in which a letter goes.
func TestAFullNet(t *testing.T) {
	n := full(t)
	was := n.Copy()
	if n.Len() != api.MaxLetters || n.Last() != api.MaxLetters {
		t.Fatalf("Len %d, Last %d", n.Len(), n.Last())
	}
	unsent(t, n, 0, 1, nil, api.ErrFull)
	unsent(t, n, 1, 0, make([]byte, api.MaxLetter), api.ErrFull)
	for _, number := range []int64{1, 2, api.MaxLetters} {
		if twin, e := n.Double(number); twin != 0 || e != api.ErrFull {
			t.Errorf("Double(%d): %d, %v", number, twin, e)
		}
	}
	for _, number := range []int64{0, -1, api.MaxLetters + 1} { // ErrNone ahead of ErrFull
		nowhere(t, n, number)
	}
	unchanged(t, "what is refused", n, was)

	deliver(t, n, letter(7, 0, 1, "\x06"))
	send(t, n, 1, 0, "more", api.MaxLetters+1) // a refused one took no number
	unsent(t, n, 0, 1, nil, api.ErrFull)
	nowhere(t, n, 7)

	drop(t, n, api.MaxLetters+1)
	doubled(t, n, 9, api.MaxLetters+2)
	if twin, e := n.Double(9); twin != 0 || e != api.ErrFull {
		t.Errorf("Double of a full net: %d, %v", twin, e)
	}
	if l, ok := n.At(api.MaxLetters - 1); !alike(l, letter(api.MaxLetters+2, 0, 1, "\x08")) || !ok {
		t.Errorf("the last one: %v, %v", l, ok)
	}
	if l, ok := n.At(api.MaxLetters); !alike(l, api.Letter{}) || ok {
		t.Errorf("one more than may be: %v, %v", l, ok)
	}

	if many := n.Clear(); many != api.MaxLetters {
		t.Errorf("Clear: %d", many)
	}
	stands(t, n, api.MaxLetters+2)
	send(t, n, 0, 1, "", api.MaxLetters+3)
	stands(t, n, api.MaxLetters+3, letter(api.MaxLetters+3, 0, 1, ""))
}
