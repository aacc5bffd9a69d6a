package lock

import "millpond/api"

// nodes tells of each node whether it is one of them.
type nodes [api.MaxNodes]bool

// isNode tells whether there may be such a node.
func isNode(node int) bool {
	return node >= 0 && node < api.MaxNodes
}

// list is them, rising.
func (n nodes) list() []int {
	var l []int
	for node, is := range n {
		if is {
			l = append(l, node)
		}
	}
	return l
}

// lowest is the first of them, if there is one.
func (n nodes) lowest() int {
	for node, is := range n {
		if is {
			return node
		}
	}
	return nobody
}
