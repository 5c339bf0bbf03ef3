package graph_test

import (
	"math"
	"slices"
	"testing"

	"warden/api"
	"warden/graph"
)

var (
	a = api.Handle{Slot: 1, Gen: 1}
	b = api.Handle{Slot: 2, Gen: 1}
	c = api.Handle{Slot: 3, Gen: 1}
	d = api.Handle{Slot: 3, Gen: 2}

	p = api.Place{Map: 1, Slot: 0, At: 8}
	q = api.Place{Map: 0, Slot: 5, At: 24}
	r = api.Place{Map: 1, Slot: 0, At: 24}
)

// member is a handle, and the node by which it is in a place.
type member struct {
	h    api.Handle
	node int
}

// spot is a place, and what it has.
type spot struct {
	p    api.Place
	kind uint8
	row  []member
}

func listAt(p api.Place, row ...member) spot {
	return spot{p, api.PlaceList, row}
}

func treeAt(p api.Place, row ...member) spot {
	return spot{p, api.PlaceTree, row}
}

// members are n of the handles, each by this node.
func members(n, node int) []member {
	var out []member
	for i := range n {
		out = append(out, member{api.Handle{Slot: i / 2, Gen: uint64(1 + i%2)}, node})
	}
	return out
}

// kinds are handles of every kind: the zero one, slots below 0 and very great ones, and such as differ by one of both alone.
func kinds() []api.Handle {
	var out []api.Handle
	for _, slot := range []int{0, 1, -1, 64, 1 << 31, 1 << 32, 1<<32 + 1, -1 << 32, math.MaxInt, math.MinInt} {
		for _, number := range []uint64{1, 0, 2, 1 << 32, 1 << 63, math.MaxUint64} {
			out = append(out, api.Handle{Slot: slot, Gen: number})
		}
	}
	return out
}

// numbers are such as a node may be, or a part of a place, rising.
func numbers() []int {
	return []int{math.MinInt, math.MinInt + 1, -1 << 32, -1 << 31, -2, -1, 0, 1, 2, 8, 16, 255, 256, 1 << 31, 1 << 32, 1<<32 + 1, math.MaxInt - 1, math.MaxInt}
}

// places are such whose numbers are of every kind, in the order in which Places tells them.
func places() []api.Place {
	few := []int{math.MinInt, -1, 0, 1, 1 << 32, math.MaxInt}
	var out []api.Place
	for _, m := range few {
		for _, slot := range few {
			for _, at := range few {
				out = append(out, api.Place{Map: m, Slot: slot, At: at})
			}
		}
	}
	return out
}

// far are places in a row that are none, if the least one behind all is n.
func far(n int) []int {
	return []int{-1, n, -2, n + 1, -n - 1, 1 << 31, 1 << 32, -1 << 31, -1 << 32, 1<<32 + n, math.MaxInt - 1, math.MaxInt, math.MinInt, math.MinInt + 1, math.MinInt + n}
}

// graphOf is a graph that has this.
func graphOf(t *testing.T, spots ...spot) *graph.Graph {
	t.Helper()
	g := graph.New()
	for _, s := range spots {
		fill(t, g, s)
	}
	has(t, g, spots...)
	return g
}

// fill puts all of it into its place.
func fill(t *testing.T, g *graph.Graph, s spot) {
	t.Helper()
	for i, m := range s.row {
		if s.kind == api.PlaceTree {
			inserts(t, g, s.p, i, m)
		} else {
			pushes(t, g, s.p, m, false)
		}
	}
}

func pushes(t *testing.T, g *graph.Graph, p api.Place, m member, front bool) {
	t.Helper()
	if e := g.Push(p, m.h, m.node, front); e != api.OK {
		t.Fatalf("Push of %v (front %v) at %v is %v", m, front, p, e)
	}
}

func inserts(t *testing.T, g *graph.Graph, p api.Place, i int, m member) {
	t.Helper()
	if e := g.Insert(p, i, m.h, m.node); e != api.OK {
		t.Fatalf("Insert of %v as the %d-th at %v is %v", m, i, p, e)
	}
}

// notPushed holds that Push is refused, at either end.
func notPushed(t *testing.T, g *graph.Graph, want api.Errno, p api.Place, m member) {
	t.Helper()
	for _, front := range []bool{true, false} {
		if e := g.Push(p, m.h, m.node, front); e != want {
			t.Fatalf("Push of %v (front %v) at %v is %v, not %v", m, front, p, e, want)
		}
	}
}

// notInserted holds that Insert is refused, at each of these places of the row.
func notInserted(t *testing.T, g *graph.Graph, want api.Errno, p api.Place, m member, at ...int) {
	t.Helper()
	for _, i := range at {
		if e := g.Insert(p, i, m.h, m.node); e != want {
			t.Fatalf("Insert of %v as the %d-th at %v is %v, not %v", m, i, p, e, want)
		}
	}
}

func pops(t *testing.T, g *graph.Graph, p api.Place, front bool, want member) {
	t.Helper()
	if h, is := g.Pop(p, front); h != want.h || !is {
		t.Fatalf("Pop (front %v) at %v is %v, %v, not %v", front, p, h, is, want.h)
	}
	out(t, g, want)
}

func removes(t *testing.T, g *graph.Graph, p api.Place, m member) {
	t.Helper()
	if !g.Remove(p, m.h, m.node) {
		t.Fatalf("Remove of %v at %v is false", m, p)
	}
	out(t, g, m)
}

// notRemoved holds that the node is not at the place to be removed.
func notRemoved(t *testing.T, g *graph.Graph, p api.Place, m member) {
	t.Helper()
	if g.Remove(p, m.h, m.node) {
		t.Fatalf("Remove of %v at %v, where it is not, is true", m, p)
	}
}

// out holds that the nodes are in no place.
func out(t *testing.T, g *graph.Graph, nodes ...member) {
	t.Helper()
	for _, m := range nodes {
		if where, is := g.In(m.h, m.node); where != (api.Place{}) || is {
			t.Fatalf("In of %v, that is nowhere, is %v, %v", m, where, is)
		}
	}
}

// handlesOf are the handles of a row.
func handlesOf(row []member) []api.Handle {
	var out []api.Handle
	for _, m := range row {
		out = append(out, m.h)
	}
	return out
}

// has holds all that the graph tells of itself: it has this, each at its place, and nothing else anywhere.
func has(t *testing.T, g *graph.Graph, spots ...spot) {
	t.Helper()
	spots = slices.DeleteFunc(slices.Clone(spots), func(s spot) bool { return len(s.row) == 0 })
	slices.SortFunc(spots, func(s, u spot) int {
		return slices.Compare([]int{s.p.Map, s.p.Slot, s.p.At}, []int{u.p.Map, u.p.Slot, u.p.At})
	})
	told := g.Places()
	if len(told) != len(spots) {
		t.Fatalf("Places are %v, not those of %v", told, spots)
	}
	in := map[member]api.Place{}
	for i, s := range spots {
		if told[i] != s.p {
			t.Fatalf("Places are %v, not those of %v", told, spots)
		}
		hasAt(t, g, s)
		for _, m := range s.row {
			in[m] = s.p
		}
	}
	for _, other := range []api.Place{p, q, r, {}, {Map: 99, Slot: 99, At: 99}} {
		if !slices.Contains(told, other) {
			bare(t, g, other)
		}
	}
	hasNodes(t, g, in)
}

// hasNodes holds where each node is, of each handle that the graph has by one, and of a few others.
func hasNodes(t *testing.T, g *graph.Graph, in map[member]api.Place) {
	t.Helper()
	nodes := []int{-1, 0, 1, 8, 16, 24}
	handles := []api.Handle{{}, a, b, c, d}
	for m := range in {
		nodes, handles = append(nodes, m.node), append(handles, m.h)
	}
	slices.Sort(nodes)
	nodes = slices.Compact(nodes)
	for _, h := range handles {
		for _, node := range nodes {
			where, is := g.In(h, node)
			if want, has := in[member{h, node}]; where != want || is != has {
				t.Fatalf("In of %v is %v, %v, not %v, %v", member{h, node}, where, is, want, has)
			}
		}
	}
}

// hasAt holds all that the graph tells of a place that has something.
func hasAt(t *testing.T, g *graph.Graph, s spot) {
	t.Helper()
	if kind := g.Kind(s.p); kind != s.kind {
		t.Fatalf("Kind of %v is %d, not %d", s.p, kind, s.kind)
	}
	if n := g.Len(s.p); n != len(s.row) {
		t.Fatalf("Len of %v is %d, not %d", s.p, n, len(s.row))
	}
	for i, m := range s.row {
		if h, is := g.At(s.p, i); h != m.h || !is {
			t.Fatalf("At of %v, the %d-th, is %v, %v, not %v", s.p, i, h, is, m.h)
		}
	}
	noneAt(t, g, s.p, len(s.row))
	if s.kind == api.PlaceTree {
		noEnds(t, g, s.p)
		return
	}
	if h, is := g.Peek(s.p, true); h != s.row[0].h || !is {
		t.Fatalf("Peek of %v, at the front, is %v, %v, not %v", s.p, h, is, s.row[0].h)
	}
	if h, is := g.Peek(s.p, false); h != s.row[len(s.row)-1].h || !is {
		t.Fatalf("Peek of %v, at the back, is %v, %v, not %v", s.p, h, is, s.row[len(s.row)-1].h)
	}
}

// noneAt holds that nothing is at the far places of a row of n.
func noneAt(t *testing.T, g *graph.Graph, p api.Place, n int) {
	t.Helper()
	for _, i := range far(n) {
		if h, is := g.At(p, i); h != (api.Handle{}) || is {
			t.Fatalf("At of %v, the %d-th out of %d, is %v, %v", p, i, n, h, is)
		}
	}
}

// noEnds holds that the place has no list of which one could be told, or popped.
func noEnds(t *testing.T, g *graph.Graph, p api.Place) {
	t.Helper()
	for _, front := range []bool{true, false} {
		if h, is := g.Peek(p, front); h != (api.Handle{}) || is {
			t.Fatalf("Peek (front %v) of %v, that has no list, is %v, %v", front, p, h, is)
		}
		if h, is := g.Pop(p, front); h != (api.Handle{}) || is {
			t.Fatalf("Pop (front %v) of %v, that has no list, is %v, %v", front, p, h, is)
		}
	}
}

// bare holds that the place has nothing.
func bare(t *testing.T, g *graph.Graph, p api.Place) {
	t.Helper()
	if kind, n := g.Kind(p), g.Len(p); kind != api.PlaceNone || n != 0 {
		t.Fatalf("Kind and Len of %v, that has nothing, are %d and %d", p, kind, n)
	}
	noneAt(t, g, p, 0)
	noEnds(t, g, p)
	if l := g.Drain(p); len(l) != 0 {
		t.Fatalf("Drain of %v, that has nothing, is %v", p, l)
	}
	for _, h := range []api.Handle{{}, a, b} {
		for _, node := range []int{0, 16} {
			notRemoved(t, g, p, member{h, node})
		}
	}
}

// drains holds what Drain answers, and that the place has nothing then.
func drains(t *testing.T, g *graph.Graph, p api.Place, row ...member) {
	t.Helper()
	if l := g.Drain(p); !slices.Equal(l, handlesOf(row)) {
		t.Fatalf("Drain of %v is %v, not %v", p, l, handlesOf(row))
	}
	bare(t, g, p)
	out(t, g, row...)
}

// with is the row with one more at i.
func with(row []member, i int, m member) []member {
	return slices.Insert(slices.Clone(row), i, m)
}

// without is the row without the i-th.
func without(row []member, i int) []member {
	return slices.Delete(slices.Clone(row), i, i+1)
}

// bothKinds are a list and a tree of this row, at p.
func bothKinds(row ...member) []spot {
	return []spot{listAt(p, row...), treeAt(p, row...)}
}

func TestExample(t *testing.T) {
	g := graph.New()
	pushes(t, g, p, member{a, 0}, false)
	notInserted(t, g, api.ErrState, p, member{b, 0}, 0)
	if where, is := g.In(a, 0); where != p || !is {
		t.Fatalf("In of a is %v, %v", where, is)
	}
	has(t, g, listAt(p, member{a, 0}))
}

func TestP171New(t *testing.T) {
	g := graph.New()
	if g == nil {
		t.Fatal("New is nil")
	}
	has(t, g)
	for _, p := range places() {
		bare(t, g, p)
	}
	for _, h := range kinds() {
		for _, node := range numbers() {
			out(t, g, member{h, node})
		}
	}
}

// TestP171Push: all rows of up to five pushes at either end, from a place with nothing on.
func TestP171Push(t *testing.T) {
	for n := range 6 {
		for ends := range 1 << n {
			g := graph.New()
			var row []member
			for i, m := range members(n, 16) {
				front := ends>>i&1 > 0
				pushes(t, g, p, m, front)
				if front {
					row = with(row, 0, m)
				} else {
					row = append(row, m)
				}
				has(t, g, listAt(p, row...))
			}
		}
	}
}

// TestP171Insert: at each place of a row of up to six, from a place with nothing on.
func TestP171Insert(t *testing.T) {
	for n := range 7 {
		row := members(n, 0)
		for i := range n + 1 {
			g := graphOf(t, treeAt(p, row...))
			inserts(t, g, p, i, member{api.Handle{Slot: 99, Gen: 9}, 0})
			has(t, g, treeAt(p, with(row, i, member{api.Handle{Slot: 99, Gen: 9}, 0})...))
		}
	}
}

// TestP171OtherKind: into a list nothing is inserted, into a tree nothing is pushed, of however many, by whatever node.
func TestP171OtherKind(t *testing.T) {
	for n := 1; n < 6; n++ {
		row := members(n, 0)
		for _, m := range []member{{api.Handle{Slot: 99, Gen: 9}, 0}, {api.Handle{Slot: 99, Gen: 9}, 16}, {api.Handle{}, 0}} {
			g := graphOf(t, listAt(p, row...), treeAt(q, members(n, 8)...))
			notInserted(t, g, api.ErrState, p, m, append(far(n+1), 0, 1, n)...)
			notPushed(t, g, api.ErrState, q, m)
			has(t, g, listAt(p, row...), treeAt(q, members(n, 8)...))
		}
	}
}

// TestP171There: a node that is in a place is put nowhere: not into the same place, nor into one of the same kind, of the other kind, or with nothing.
func TestP171There(t *testing.T) {
	spots := []spot{listAt(p, member{a, 0}, member{b, 0}, member{c, 8}), treeAt(q, member{c, 0}, member{a, 8}, member{d, 16})}
	g := graphOf(t, spots...)
	fill(t, g, listAt(r, member{a, 16}))
	fill(t, g, treeAt(api.Place{}, member{a, 24}))
	spots = append(spots, listAt(r, member{a, 16}), treeAt(api.Place{}, member{a, 24}))
	for _, s := range spots {
		for _, m := range s.row {
			for _, at := range []api.Place{p, q, r, {}, {Map: 7}, {Map: 1, At: 8, Slot: 1}} {
				notPushed(t, g, api.ErrThere, at, m)
				notInserted(t, g, api.ErrThere, at, m, append(far(4), 0, 1, 2, 3)...)
				has(t, g, spots...)
			}
		}
	}
}

// TestP171OtherNode: a handle that is there by one node does not come in by another one, be it in a list or in a tree; into another place it does.
func TestP171OtherNode(t *testing.T) {
	row := []member{{a, 0}, {b, 16}, {c, 0}}
	others := []member{{a, 16}, {b, 0}, {c, -1}, {a, math.MaxInt}}
	for _, m := range others {
		g := graphOf(t, listAt(p, row...))
		notPushed(t, g, api.ErrState, p, m)
		has(t, g, listAt(p, row...))
		pushes(t, g, q, m, true)
		has(t, g, listAt(p, row...), listAt(q, m))
		notPushed(t, g, api.ErrThere, p, m)
		removes(t, g, q, m)
		inserts(t, g, q, 0, m)
		has(t, g, listAt(p, row...), treeAt(q, m))

		g = graphOf(t, treeAt(p, row...))
		notInserted(t, g, api.ErrState, p, m, 0, 1, 2, 3)
		has(t, g, treeAt(p, row...))
		inserts(t, g, q, 0, m)
		has(t, g, treeAt(p, row...), treeAt(q, m))
		notInserted(t, g, api.ErrThere, p, m, 0, 1, 2, 3)
		removes(t, g, q, m)
		pushes(t, g, q, m, false)
		has(t, g, treeAt(p, row...), listAt(q, m))
	}
}

// TestP171OtherNodeLater: once the one node is there no more, the handle comes in by another one, or by the same one again.
func TestP171OtherNodeLater(t *testing.T) {
	g := graphOf(t, listAt(p, member{a, 0}, member{b, 0}), treeAt(q, member{c, 0}, member{d, 0}))
	was := 0
	for _, node := range []int{16, 0, -1, -1, 16} {
		pops(t, g, p, true, member{a, was})
		pushes(t, g, p, member{a, node}, true)
		notPushed(t, g, api.ErrState, p, member{a, 8})
		removes(t, g, q, member{c, was})
		inserts(t, g, q, 0, member{c, node})
		notInserted(t, g, api.ErrState, q, member{c, 8}, 0, 1, 2)
		has(t, g, listAt(p, member{a, node}, member{b, 0}), treeAt(q, member{c, node}, member{d, 0}))
		was = node
	}
}

// TestP171Places: at places of the tree that are none nothing is inserted; a place that has nothing has nothing behind it, and may have a list then.
func TestP171Places(t *testing.T) {
	m := member{api.Handle{Slot: 99, Gen: 9}, 0}
	for n := range 9 {
		row := members(n, 0)
		g := graphOf(t, treeAt(p, row...))
		notInserted(t, g, api.ErrArg, p, m, far(n+1)...)
		out(t, g, m)
		has(t, g, treeAt(p, row...))
		if n == 0 {
			pushes(t, g, p, m, true)
			has(t, g, listAt(p, m))
		} else {
			inserts(t, g, p, n, m)
			has(t, g, treeAt(p, with(row, n, m)...))
		}
	}
}

// TestP171FirstError: of several that apply the one that stands first is told.
func TestP171FirstError(t *testing.T) {
	spots := []spot{listAt(p, member{a, 0}, member{b, 0}), treeAt(q, member{a, 8}, member{c, 0})}
	g := graphOf(t, spots...)
	for _, x := range []struct {
		what string
		e    api.Errno
		want api.Errno
	}{
		{"Push: in another place, a tree", g.Push(q, b, 0, true), api.ErrThere},
		{"Push: in the same place, a tree", g.Push(q, c, 0, true), api.ErrThere},
		{"Push: in another place, there by another node", g.Push(p, a, 8, true), api.ErrThere},
		{"Push: in another place, a tree, there by another node", g.Push(q, a, 0, true), api.ErrThere},
		{"Push: a tree, there by another node", g.Push(q, c, 16, true), api.ErrState},
		{"Insert: in another place, a list", g.Insert(p, 0, c, 0), api.ErrThere},
		{"Insert: in the same place, a list", g.Insert(p, 0, a, 0), api.ErrThere},
		{"Insert: in the same place, a list, no place of it", g.Insert(p, -1, a, 0), api.ErrThere},
		{"Insert: in another place, a list, there by another node, no place of it", g.Insert(p, 3, a, 8), api.ErrThere},
		{"Insert: in the same place, no place of it", g.Insert(q, 3, c, 0), api.ErrThere},
		{"Insert: in another place, no place of it", g.Insert(q, -1, b, 0), api.ErrThere},
		{"Insert: in another place, with nothing there, no place of it", g.Insert(r, 1, b, 0), api.ErrThere},
		{"Insert: a list, no place of it", g.Insert(p, 9, c, 8), api.ErrState},
		{"Insert: a list, there by another node, no place of it", g.Insert(p, -9, a, 16), api.ErrState},
		{"Insert: there by another node, no place of it", g.Insert(q, 3, c, 16), api.ErrState},
		{"Insert: there by another node, no place of it", g.Insert(q, -1, a, 16), api.ErrState},
		{"Insert: no place of it", g.Insert(q, 3, b, 8), api.ErrArg},
	} {
		if x.e != x.want {
			t.Errorf("%s: %v, not %v", x.what, x.e, x.want)
		}
	}
	has(t, g, spots...)
}

// TestP171Kinds: handles of every kind are no more to the graph than others, and each is told from all others.
func TestP171Kinds(t *testing.T) {
	var row, others []member
	for _, h := range kinds() {
		row, others = append(row, member{h, 0}), append(others, member{h, 16})
	}
	g := graph.New()
	for i, m := range row {
		out(t, g, row[i:]...)
		pushes(t, g, p, m, false)
		out(t, g, others[i:]...)
		inserts(t, g, q, 0, others[i])
	}
	slices.Reverse(others)
	has(t, g, listAt(p, row...), treeAt(q, others...))
	for _, m := range row {
		notPushed(t, g, api.ErrThere, p, m)
		notPushed(t, g, api.ErrState, p, member{m.h, 8})
		notInserted(t, g, api.ErrState, q, member{m.h, 8}, 0, len(row))
	}
	for i, m := range row {
		removes(t, g, p, m)
		has(t, g, listAt(p, row[i+1:]...), treeAt(q, others...))
	}
	drains(t, g, q, others...)
}

// TestP171Nodes: nodes of any number, of one handle, each at a place of its own.
func TestP171Nodes(t *testing.T) {
	for _, h := range []api.Handle{{}, a} {
		g := graph.New()
		var spots []spot
		for i, node := range numbers() {
			at := api.Place{Map: i}
			out(t, g, member{h, node})
			if i%2 == 0 {
				pushes(t, g, at, member{h, node}, true)
				spots = append(spots, listAt(at, member{h, node}))
			} else {
				inserts(t, g, at, 0, member{h, node})
				spots = append(spots, treeAt(at, member{h, node}))
			}
			has(t, g, spots...)
		}
		for i, s := range spots {
			for _, other := range numbers() {
				if other != s.row[0].node {
					notRemoved(t, g, s.p, member{h, other})
				}
			}
			removes(t, g, s.p, s.row[0])
			has(t, g, spots[i+1:]...)
		}
	}
}

// TestP171ZeroHandle: it is one like any other: there when it was put there, and not what a place without a handle answers true of.
func TestP171ZeroHandle(t *testing.T) {
	zero := member{}
	for _, s := range bothKinds(zero) {
		g := graphOf(t, treeAt(q, member{a, 0}), listAt(r, member{a, 16}))
		out(t, g, zero)
		fill(t, g, s)
		has(t, g, s, treeAt(q, member{a, 0}), listAt(r, member{a, 16}))
		removes(t, g, p, zero)
		has(t, g, treeAt(q, member{a, 0}), listAt(r, member{a, 16}))
		fill(t, g, s)
		drains(t, g, p, zero)
		out(t, g, zero)
	}
}

// TestP172Pop: at either end of none, one, two and more; the others stay.
func TestP172Pop(t *testing.T) {
	const n = 4
	for ends := range 1 << n {
		for n := range n + 1 {
			row := members(n, 16)
			other := treeAt(q, members(n, 0)...)
			g := graphOf(t, listAt(p, row...), other)
			for i := range n {
				if ends>>i&1 > 0 {
					pops(t, g, p, true, row[0])
					row = row[1:]
				} else {
					pops(t, g, p, false, row[len(row)-1])
					row = row[:len(row)-1]
				}
				has(t, g, listAt(p, row...), other)
			}
			bare(t, g, p)
		}
	}
}

// TestP172PopTree: of a tree nothing is popped, and nothing is told at an end.
func TestP172PopTree(t *testing.T) {
	for n := 1; n < 6; n++ {
		g := graphOf(t, treeAt(p, members(n, 0)...))
		noEnds(t, g, p)
		noEnds(t, g, p)
		has(t, g, treeAt(p, members(n, 0)...))
	}
}

// TestP172Peek: what is told at either end stays, however often it is told.
func TestP172Peek(t *testing.T) {
	for n := 1; n < 5; n++ {
		row := members(n, 0)
		g := graphOf(t, listAt(p, row...))
		for range 3 {
			if h, is := g.Peek(p, true); h != row[0].h || !is {
				t.Fatalf("Peek at the front is %v, %v", h, is)
			}
			if h, is := g.Peek(p, false); h != row[n-1].h || !is {
				t.Fatalf("Peek at the back is %v, %v", h, is)
			}
		}
		has(t, g, listAt(p, row...))
	}
}

// TestP172Remove: each one out of a list, and out of a tree, that has one, two, or more; not again.
func TestP172Remove(t *testing.T) {
	for n := 1; n < 7; n++ {
		row := members(n, 8)
		for i, m := range row {
			for _, s := range bothKinds(row...) {
				g := graphOf(t, s)
				removes(t, g, p, m)
				notRemoved(t, g, p, m)
				has(t, g, spot{p, s.kind, without(row, i)})
			}
		}
	}
}

// TestP172NotRemoved: a node that is elsewhere, or nowhere, or whose handle is there by another node.
func TestP172NotRemoved(t *testing.T) {
	spots := []spot{listAt(p, member{a, 0}, member{b, 16}), treeAt(q, member{a, 16}, member{c, 0})}
	g := graphOf(t, spots...)
	for _, x := range []struct {
		p api.Place
		m member
	}{
		{p, member{a, 16}}, {q, member{a, 0}}, {p, member{c, 0}}, {q, member{b, 16}}, // elsewhere
		{r, member{a, 0}}, {r, member{a, 16}}, {api.Place{}, member{c, 0}}, // elsewhere, and the place has nothing
		{p, member{b, 0}}, {q, member{c, 16}}, {p, member{a, 8}}, {q, member{a, 8}}, // by another node
		{p, member{d, 0}}, {q, member{d, 0}}, {r, member{d, 0}}, {p, member{}}, {q, member{}}, // nowhere
		{api.Place{Map: 1}, member{a, 0}}, {api.Place{At: 8}, member{a, 0}}, {api.Place{Map: 1, Slot: 1, At: 8}, member{a, 0}}, // a place that is another one by one number
	} {
		notRemoved(t, g, x.p, x.m)
		has(t, g, spots...)
	}
}

// TestP172Left: where none is left, by whichever way out, there is nothing, and the place may have either kind then.
func TestP172Left(t *testing.T) {
	m := member{a, 0}
	ways := []func(g *graph.Graph){
		func(g *graph.Graph) { removes(t, g, p, m) },
		func(g *graph.Graph) { drains(t, g, p, m) },
		func(g *graph.Graph) { pops(t, g, p, true, m) },
		func(g *graph.Graph) { pops(t, g, p, false, m) },
	}
	for i, way := range ways {
		for _, s := range bothKinds(m) {
			if s.kind == api.PlaceTree && i > 1 {
				continue
			}
			for _, then := range bothKinds(m, member{b, 16}) {
				g := graphOf(t, s)
				way(g)
				has(t, g)
				bare(t, g, p)
				fill(t, g, then)
				has(t, g, then)
			}
		}
	}
}

// TestP172At: of each place of a list, and of a tree, and of those that are none.
func TestP172At(t *testing.T) {
	for n := range 9 {
		for _, s := range bothKinds(members(n, 0)...) {
			g := graphOf(t, s)
			for i, m := range s.row {
				if h, is := g.At(p, i); h != m.h || !is {
					t.Errorf("At of %d (kind %d) is %v, %v, not %v", i, s.kind, h, is, m.h)
				}
			}
			for _, i := range far(n) {
				if h, is := g.At(p, i); h != (api.Handle{}) || is {
					t.Errorf("At of %d (kind %d, of %d) is %v, %v", i, s.kind, n, h, is)
				}
			}
		}
	}
}

// TestP172In: of each node where it is, behind each way in and each way out.
func TestP172In(t *testing.T) {
	g := graph.New()
	first, second := member{a, 0}, member{a, 16}
	for range 2 {
		pushes(t, g, p, first, true)
		inserts(t, g, q, 0, second)
		has(t, g, listAt(p, first), treeAt(q, second))
		pops(t, g, p, true, first)
		pushes(t, g, r, first, false)
		has(t, g, listAt(r, first), treeAt(q, second))
		removes(t, g, q, second)
		pushes(t, g, p, second, false)
		has(t, g, listAt(r, first), listAt(p, second))
		drains(t, g, r, first)
		inserts(t, g, q, 0, first)
		has(t, g, treeAt(q, first), listAt(p, second))
		drains(t, g, q, first)
		pops(t, g, p, false, second)
		has(t, g)
	}
}

// TestP172Drain: all, in order, of a list and of a tree; what was there may be put anywhere then.
func TestP172Drain(t *testing.T) {
	others := []spot{listAt(q, member{d, 16}), treeAt(r, member{d, 8})}
	for n := range 9 {
		row := members(n, 0)
		for _, s := range bothKinds(row...) {
			for _, then := range []api.Place{p, {Map: 9}} {
				for _, kind := range []uint8{api.PlaceList, api.PlaceTree} {
					g := graphOf(t, append(slices.Clone(others), s)...)
					drains(t, g, p, row...)
					drains(t, g, p)
					has(t, g, others...)
					fill(t, g, spot{then, kind, row})
					has(t, g, append(slices.Clone(others), spot{then, kind, row})...)
				}
			}
		}
	}
}

// TestP172DrainJoins: what was drained may be put into a list, and a tree, that are there already.
func TestP172DrainJoins(t *testing.T) {
	for _, s := range bothKinds(member{a, 0}, member{b, 0}) {
		g := graphOf(t, s, listAt(q, member{c, 0}), treeAt(r, member{d, 0}))
		drains(t, g, p, s.row...)
		pushes(t, g, q, member{a, 0}, true)
		inserts(t, g, r, 1, member{b, 0})
		has(t, g, listAt(q, member{a, 0}, member{c, 0}), treeAt(r, member{d, 0}, member{b, 0}))
	}
}

// TestP172DrainOrder: in the order of the row, which is not that in which it was filled.
func TestP172DrainOrder(t *testing.T) {
	g := graph.New()
	for i, m := range members(8, 0) {
		pushes(t, g, p, m, i%2 == 0)
	}
	for i, m := range members(8, 16) {
		inserts(t, g, q, i/2, m)
	}
	for _, x := range []api.Place{p, q} {
		var want []api.Handle
		for i := range g.Len(x) {
			h, _ := g.At(x, i)
			want = append(want, h)
		}
		if got := g.Drain(x); len(got) != 8 || !slices.Equal(got, want) {
			t.Errorf("Drain of %v is %v, not %v", x, got, want)
		}
	}
	has(t, g)
}

// TestP172Places: by Map, then Slot, then At, rising, in whatever order they were filled; those that have nothing are left out.
func TestP172Places(t *testing.T) {
	all := places()
	for _, step := range []int{1, 5, 7, 25, len(all) - 1} {
		g := graph.New()
		for i := range all {
			k := (i + 1) * step % len(all)
			if i%2 == 0 {
				pushes(t, g, all[k], member{a, k}, true)
			} else {
				inserts(t, g, all[k], 0, member{a, k})
			}
		}
		if got := g.Places(); !slices.Equal(got, all) {
			t.Fatalf("Places are %v", got)
		}
		var left []api.Place
		for k, x := range all {
			if k%3 != 1 {
				left = append(left, x)
				continue
			}
			drains(t, g, x, member{a, k})
		}
		if got := g.Places(); !slices.Equal(got, left) {
			t.Fatalf("Places are %v", got)
		}
	}
}

// TestP172PlacesApart: places that differ by one number alone are two.
func TestP172PlacesApart(t *testing.T) {
	one := api.Place{Map: 3, Slot: 5, At: 7}
	for _, other := range []api.Place{{Map: 4, Slot: 5, At: 7}, {Map: 3, Slot: 6, At: 7}, {Map: 3, Slot: 5, At: 8}, {Map: 5, Slot: 3, At: 7}, {Map: 3, Slot: 7, At: 5}, {Map: 3 + 1<<32, Slot: 5, At: 7}, {Map: 3, Slot: 5 + 1<<32, At: 7}, {Map: 3, Slot: 5, At: 7 + 1<<32}, {Map: -3, Slot: 5, At: 7}} {
		g := graphOf(t, listAt(one, member{a, 0}))
		bare(t, g, other)
		inserts(t, g, other, 0, member{a, 16})
		has(t, g, listAt(one, member{a, 0}), treeAt(other, member{a, 16}))
		drains(t, g, one, member{a, 0})
		has(t, g, treeAt(other, member{a, 16}))
	}
}

// TestP172AnswersAreNew: who changes a list that was answered changes neither the graph nor another list; what is done to the graph changes none that was answered.
func TestP172AnswersAreNew(t *testing.T) {
	for _, s := range bothKinds(members(4, 0)...) {
		g := graphOf(t, s, treeAt(q, member{a, 16}), listAt(r, member{b, 16}))
		told, again := g.Places(), g.Places()
		for i := range told {
			told[i] = api.Place{Map: -9}
		}
		_ = append(told[:1], api.Place{Slot: -9})
		if !slices.Equal(again, []api.Place{q, p, r}) {
			t.Fatal("another answer was changed to", again)
		}
		has(t, g, s, treeAt(q, member{a, 16}), listAt(r, member{b, 16}))

		got := g.Drain(p)
		fill(t, g, s)
		for i := range got {
			got[i] = api.Handle{Slot: -9}
		}
		_ = append(got[:1], api.Handle{Slot: -8})
		has(t, g, s, treeAt(q, member{a, 16}), listAt(r, member{b, 16}))

		got = g.Drain(p)
		pushes(t, g, p, member{d, 16}, true)
		inserts(t, g, q, 0, s.row[0])
		if !slices.Equal(got, handlesOf(s.row)) || !slices.Equal(again, []api.Place{q, p, r}) {
			t.Fatal("what had been answered was changed to", got, again)
		}
	}
}

// TestP172Reads: who asks, however often, changes nothing.
func TestP172Reads(t *testing.T) {
	spots := []spot{listAt(p, members(5, 0)...), treeAt(q, members(5, 16)...)}
	g := graphOf(t, spots...)
	for range 5 {
		has(t, g, spots...)
	}
}

// TestNil: each call of a graph that is nil, or was not made by New.
func TestNil(t *testing.T) {
	for _, g := range []*graph.Graph{nil, {}} {
		for _, x := range append(places(), p) {
			for _, m := range []member{{}, {a, 0}, {a, -1}} {
				notPushed(t, g, api.ErrNil, x, m)
				notInserted(t, g, api.ErrNil, x, m, -1, 0, 1)
				notRemoved(t, g, x, m)
				out(t, g, m)
			}
			bare(t, g, x)
		}
		if l := g.Places(); len(l) != 0 {
			t.Error("Places are", l)
		}
		has(t, g)
	}
}
