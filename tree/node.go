package tree

import "warden/api"

// The sides of a node: on the one are those that stand ahead of it, on the other one those behind it.
const (
	ahead  = 0
	behind = 1
)

// node is a handle in the tree, with those under it.
type node struct {
	h     api.Handle
	over  *node
	sides [2]*node
	size  int // How many handles are from here on down.
	deep  int // How many of them are on the longest way down.
}

func (n *node) len() int {
	if n == nil {
		return 0
	}
	return n.size
}

func (n *node) depth() int {
	if n == nil {
		return 0
	}
	return n.deep
}

// reckon finds out anew what hangs on both sides.
func (n *node) reckon() {
	n.size = n.sides[ahead].len() + 1 + n.sides[behind].len()
	n.deep = 1 + max(n.sides[ahead].depth(), n.sides[behind].depth())
}

// side answers on which side of the one over it the node is.
func (n *node) side() int {
	if n.over.sides[behind] == n {
		return behind
	}
	return ahead
}

// hang puts the other node, or none, on that side of this one.
func (n *node) hang(side int, under *node) {
	n.sides[side] = under
	if under != nil {
		under.over = n
	}
}

// turn puts the node of that side in this one's place, and this one under it on the other side. The order stays.
func (n *node) turn(side int) {
	up := n.sides[side]
	n.over.hang(n.side(), up)
	n.hang(side, up.sides[1-side])
	up.hang(1-side, n)
	n.reckon()
	up.reckon()
}

// level turns the node, if one of its sides is deeper than the other one by more than 1.
func (n *node) level() {
	n.reckon()
	for side, under := range n.sides {
		if under.depth() <= n.sides[1-side].depth()+1 {
			continue
		}
		// What is between both changes its side by the turn, but not its depth: it must not be the deeper part.
		if under.sides[1-side].depth() > under.sides[side].depth() {
			under.turn(1 - side)
		}
		n.turn(side)
		return
	}
}

// at answers the node at that place, counted from the first one under this; it must be from 0 to one below len.
func (n *node) at(i int) *node {
	for {
		first := n.sides[ahead].len()
		if i == first {
			return n
		}
		if i < first {
			n = n.sides[ahead]
		} else {
			n, i = n.sides[behind], i-first-1
		}
	}
}

// all yields the handles from here on down, in order.
func (n *node) all(yield func(api.Handle) bool) {
	if n == nil {
		return
	}
	for h := range n.sides[ahead].all {
		if !yield(h) {
			return
		}
	}
	if !yield(n.h) {
		return
	}
	for h := range n.sides[behind].all {
		if !yield(h) {
			return
		}
	}
}
