package graph

import (
	"testing"

	"warden/api"
)

// holds holds how many places, and nodes, the graph keeps something of.
func holds(t *testing.T, g *Graph, spots, nodes int) {
	t.Helper()
	if len(g.spots) != spots || len(g.in) != nodes {
		t.Fatalf("%d places and %d nodes are kept, not %d and %d", len(g.spots), len(g.in), spots, nodes)
	}
	by := 0
	for p, s := range g.spots {
		if len(s.by) != s.Len() || s.Len() == 0 {
			t.Fatalf("of %d handles at %v %d nodes are kept", s.Len(), p, len(s.by))
		}
		by += len(s.by)
	}
	if by != nodes {
		t.Fatalf("%d nodes are kept by handles, not %d", by, nodes)
	}
}

// TestKept: nothing is kept of what is in no place, or was refused, nor of a place that has nothing.
func TestKept(t *testing.T) {
	p, q := api.Place{Map: 1}, api.Place{Map: 2}
	a, b := api.Handle{Slot: 1}, api.Handle{Slot: 2}
	g := New()
	holds(t, g, 0, 0)
	g.Insert(q, 1, a, 0)
	holds(t, g, 0, 0)
	g.Push(p, a, 0, true)
	g.Push(p, b, 0, true)
	g.Push(p, b, 8, true)
	g.Insert(p, 0, api.Handle{}, 0)
	holds(t, g, 1, 2)
	g.Insert(q, 0, a, 8)
	g.Insert(q, 2, b, 8)
	holds(t, g, 2, 3)
	g.Remove(q, a, 8)
	holds(t, g, 1, 2)
	g.Pop(p, false)
	holds(t, g, 1, 1)
	g.Pop(p, false)
	holds(t, g, 0, 0)
	g.Insert(q, 0, a, 8)
	g.Insert(q, 0, b, 0)
	g.Drain(q)
	holds(t, g, 0, 0)
}
