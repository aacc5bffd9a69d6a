package view

import (
	"iter"

	"millpond/api"
)

// Is tells whether the node is a member with that epoch.
func Is(v api.View, node int, epoch int64) bool {
	return May(v) && isIn(v, node) && v.Members[node].Epoch == epoch
}

// Count is how many members there are.
func Count(v api.View) int {
	many := 0
	for range Members(v) {
		many++
	}
	return many
}

// Master is the page's, if there are members: the one whose place among them is the page's number, counted round.
func Master(v api.View, page int) (int, bool) {
	many := Count(v)
	if page < 0 || many == 0 {
		return 0, false
	}
	master, ahead := 0, page%many
members:
	for node := range Members(v) {
		if ahead == 0 {
			master = node
			break members
		}
		ahead--
	}
	return master, true
}

// Pages are those whose master the node is, rising, of so many pages.
func Pages(v api.View, node, pages int) []int {
	if pages > api.MaxPages {
		return nil
	}
	var l []int
	for page := range pages {
		if master, there := Master(v, page); there && master == node {
			l = append(l, page)
		}
	}
	return l
}

// Members goes over the members, rising, each with its epoch; over none of a view that may not be.
func Members(v api.View) iter.Seq2[int, int64] {
	return func(yield func(int, int64) bool) {
		if !May(v) {
			return
		}
		for node, m := range v.Members {
			if m.In && !yield(node, m.Epoch) {
				return
			}
		}
	}
}
