package tree

import (
	"math/rand/v2"
	"testing"

	"warden/api"
)

// soundUnder holds the node, and all under it, against what they say of themselves: who is over them, how many they are, how deep; and that no side is deeper than the other one by more than 1. It answers how many, and how deep.
func soundUnder(t *testing.T, x *Tree, n *node) (size, deep int) {
	t.Helper()
	if n == nil {
		return 0, 0
	}
	if x.nodes[n.h] != n {
		t.Fatalf("%v is kept as another node", n.h)
	}
	var sizes, deeps [2]int
	for side, under := range n.sides {
		if under != nil && under.over != n {
			t.Fatalf("what hangs on side %d of %v has another one over it", side, n.h)
		}
		sizes[side], deeps[side] = soundUnder(t, x, under)
	}
	size, deep = sizes[0]+1+sizes[1], 1+max(deeps[0], deeps[1])
	if n.size != size || n.deep != deep {
		t.Fatalf("the node of %v says %d, and %d deep, not %d and %d", n.h, n.size, n.deep, size, deep)
	}
	if d := deeps[0] - deeps[1]; d < -1 || d > 1 {
		t.Fatalf("the sides of %v are %d and %d deep", n.h, deeps[0], deeps[1])
	}
	return size, deep
}

// sound holds the whole tree, and what it says of itself.
func sound(t *testing.T, x *Tree) {
	t.Helper()
	if x.top.over != nil || x.top.sides[behind] != nil || x.first() != nil && x.first().over != x.top {
		t.Fatal("the top does not stand over all")
	}
	size, deep := soundUnder(t, x, x.first())
	if x.Len() != size || x.Deep() != deep || len(x.nodes) != size {
		t.Fatalf("Len and Deep are %d and %d, not %d and %d; %d nodes are kept", x.Len(), x.Deep(), size, deep, len(x.nodes))
	}
}

// TestP162DeepIsCounted: Deep is how many handles are on the longest way down, as it is counted out, behind each of many drawn calls.
func TestP162DeepIsCounted(t *testing.T) {
	r := rand.New(rand.NewPCG(16, 162))
	for n := 1; n < 300; n *= 3 {
		x := New()
		for range 3000 {
			h := api.Handle{Slot: r.IntN(n), Gen: 1}
			if x.Insert(r.IntN(x.Len()+1), h) != api.OK {
				x.Remove(h)
			}
			sound(t, x)
		}
	}
}

// part is a part of a tree that is to be filled: its first place, and how deep it is to be.
type part struct{ first, deep int }

// fewest is how many handles a tree of that depth has at least.
func fewest(deep int) int {
	if deep <= 0 {
		return 0
	}
	return 1 + fewest(deep-1) + fewest(deep-2)
}

// sparse is a tree of that depth with as few handles as may be, of whose nodes this side is the deeper one; each handle's slot is its place. Each node is inserted ahead of all that are deeper, so that nothing turns.
func sparse(t *testing.T, deep, side int) *Tree {
	t.Helper()
	x := New()
	parts := []part{{0, deep}}
	for len(parts) > 0 {
		p := parts[0]
		parts = parts[1:]
		if p.deep <= 0 {
			continue
		}
		depths := [2]int{p.deep - 2, p.deep - 2}
		depths[side] = p.deep - 1
		slot := p.first + fewest(depths[ahead])
		i := 0
		for h := range x.first().all {
			if h.Slot < slot {
				i++
			}
		}
		if e := x.Insert(i, api.Handle{Slot: slot, Gen: 1}); e != api.OK {
			t.Fatal(e)
		}
		parts = append(parts, part{p.first, depths[ahead]}, part{slot + 1, depths[behind]})
	}
	sound(t, x)
	if x.Deep() != deep || x.Len() != fewest(deep) {
		t.Fatalf("Deep and Len are %d and %d, not %d and %d", x.Deep(), x.Len(), deep, fewest(deep))
	}
	return x
}

// TestP163Sparse: out of a tree that has as few handles as its depth may have, each is removed, which makes turns on each row of nodes; so are all, from either end.
func TestP163Sparse(t *testing.T) {
	for deep := 1; deep <= 9; deep++ {
		for side := range 2 {
			for i := range fewest(deep) {
				x := sparse(t, deep, side)
				if at, is := x.Remove(api.Handle{Slot: i, Gen: 1}); at != i || !is {
					t.Fatalf("Remove of the %d-th is %d, %v", i, at, is)
				}
				sound(t, x)
			}
			for _, end := range []int{ahead, behind} {
				x := sparse(t, deep, side)
				for x.Len() > 0 {
					h, _ := x.At(end * (x.Len() - 1))
					x.Remove(h)
					sound(t, x)
				}
			}
		}
	}
}

// TestAllStops: whoever ranges over the handles may stop at each of them.
func TestAllStops(t *testing.T) {
	const n = 20
	x := New()
	for i := range n {
		x.Insert(i, api.Handle{Slot: i, Gen: 1})
	}
	for last := range n {
		seen := 0
		for h := range x.first().all {
			if h.Slot != seen {
				t.Fatalf("the %d-th is %v", seen, h)
			}
			seen++
			if h.Slot == last {
				break
			}
		}
		if seen != last+1 {
			t.Fatalf("%d were seen, not %d", seen, last+1)
		}
	}
}
