package net

import (
	"bytes"
	"iter"

	"millpond/api"
)

// Look is the letter of that number, if it is on its way.
func (n *Net) Look(number int64) (api.Letter, bool) {
	if n.none() {
		return api.Letter{}, false
	}
	l, there := n.letters[number]
	return own(l), there
}

// At is the letter at a place of those on their way, from 0 on.
func (n *Net) At(place int) (api.Letter, bool) {
	if place < 0 || place >= n.Len() {
		return api.Letter{}, false
	}
	return n.Look(n.order[place])
}

// Len is how many are on their way.
func (n *Net) Len() int {
	if n.none() {
		return 0
	}
	return len(n.order)
}

// Last is the number of the last one that was sent or doubled.
func (n *Net) Last() int64 {
	if n.none() {
		return 0
	}
	return n.last
}

// All goes over those on their way, rising, as they are when it begins.
func (n *Net) All() iter.Seq[api.Letter] {
	return n.those(func(api.Letter) bool { return true })
}

// To is the numbers of those to a node, rising.
func (n *Net) To(node int) []int64 {
	var numbers []int64
	for l := range n.those(func(l api.Letter) bool { return l.To == node }) {
		numbers = append(numbers, l.Number)
	}
	return numbers
}

// those goes over the letters that are looked for, rising. It takes them all ahead of the first one: the net may go on meanwhile.
func (n *Net) those(wanted func(api.Letter) bool) iter.Seq[api.Letter] {
	return func(yield func(api.Letter) bool) {
		var some []api.Letter
		for place := range n.Len() {
			if l := n.letters[n.order[place]]; wanted(l) {
				some = append(some, l)
			}
		}
		for _, l := range some {
			if !yield(own(l)) {
				return
			}
		}
	}
}

// place is where in the order the first number stands that is looked for; how many there are, if none is.
func (n *Net) place(wanted func(int64) bool) int {
	at := len(n.order)
order:
	for i, number := range n.order {
		if wanted(number) {
			at = i
			break order
		}
	}
	return at
}

// own gives a letter bytes that nobody else has.
func own(l api.Letter) api.Letter {
	l.Body = bytes.Clone(l.Body)
	return l
}
