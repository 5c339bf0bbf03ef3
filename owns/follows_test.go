package owns_test

import (
	"testing"

	"warden/api"
	"warden/owns"
)

// follows holds what follows: a chain of types has at most one more than the depth of its first one, and where Check is OK, all have a depth, below as many as there are types.
func follows(t *testing.T, l []api.Type) {
	t.Helper()
	_, e := owns.Check(l)
	for i := range l {
		depth := owns.Depth(l, i)
		if e == api.OK && (depth < 0 || depth >= len(l)) {
			t.Fatalf("Check is OK, and Depth of %d is %d: %v", i, depth, l)
		}
		if depth < 0 {
			continue
		}
		// No step along a chain goes down by less than one, and one of them by just one: so no chain is longer, and one is as long.
		least := depth == 0
		for _, j := range owns.Holds(l, i) {
			below := owns.Depth(l, j)
			if below < 0 || below >= depth {
				t.Fatalf("%d, of depth %d, holds %d, of depth %d: %v", i, depth, j, below, l)
			}
			least = least || below == depth-1
		}
		if !least {
			t.Fatalf("%d, of depth %d, holds none of one less: %v", i, depth, l)
		}
	}
}

// longest answers how many types the longest chain has that begins at i, of at most most types.
func longest(l []api.Type, i, most int) int {
	if most == 0 {
		return 0
	}
	n := 0
	for _, j := range owns.Holds(l, i) {
		n = max(n, longest(l, j, most-1))
	}
	return n + 1
}

// TestP113Chains: chains are gone along, one by one.
func TestP113Chains(t *testing.T) {
	d := drawer(113)
	for i := range 4000 {
		l := drawn(&d, 7, []int{3, 1000}[i%2])
		_, e := owns.Check(l)
		circle := false
		for i := range l {
			n, depth := longest(l, i, len(l)+1), owns.Depth(l, i)
			if n > len(l) {
				circle = true
				if depth != -1 {
					t.Fatalf("a chain from %d has no end, and its depth is %d: %v", i, depth, l)
				}
			} else if n != depth+1 {
				t.Fatalf("the longest chain from %d has %d, and its depth is %d: %v", i, n, depth, l)
			}
		}
		if circle != (e == api.ErrCycle) {
			t.Fatalf("Check is %v, and a chain has no end: %v: %v", e, circle, l)
		}
	}
}

func TestP113Tables(t *testing.T) {
	for _, l := range [][]api.Type{nil, {}, {{}}, chain(32, false), chain(32, true), down(300), full(32), full(60), table([]int{3, 1}, []int{2}, []int{3}, nil, []int{0})} {
		follows(t, l)
	}
}
