package graph_test

// The chapter's words written out again, in another way: one plain row of all that are anywhere, gone through from the front for whatever is asked. Held against the package over all short rows of calls, and over long ones that are drawn; and what follows of them.

import (
	"math/rand/v2"
	"slices"
	"testing"

	"warden/api"
	"warden/graph"
)

type entry struct {
	p    api.Place
	kind uint8
	m    member
}

type words struct{ all []entry }

func (w *words) in(m member) (api.Place, bool) {
	for _, e := range w.all {
		if e.m == m {
			return e.p, true
		}
	}
	return api.Place{}, false
}

// at answers which of all stand at the place.
func (w *words) at(p api.Place) []int {
	var out []int
	for i, e := range w.all {
		if e.p == p {
			out = append(out, i)
		}
	}
	return out
}

func (w *words) row(p api.Place) []api.Handle {
	var out []api.Handle
	for _, i := range w.at(p) {
		out = append(out, w.all[i].m.h)
	}
	return out
}

func (w *words) kind(p api.Place) uint8 {
	for _, i := range w.at(p) {
		return w.all[i].kind
	}
	return api.PlaceNone
}

// refuses answers why the node may not come to the place, as one of that kind.
func (w *words) refuses(p api.Place, kind uint8, m member) api.Errno {
	if _, is := w.in(m); is {
		return api.ErrThere
	}
	for _, i := range w.at(p) {
		if w.all[i].kind != kind || w.all[i].m.h == m.h {
			return api.ErrState
		}
	}
	return api.OK
}

func (w *words) push(p api.Place, m member, front bool) api.Errno {
	if e := w.refuses(p, api.PlaceList, m); e != api.OK {
		return e
	}
	at := len(w.all)
	if front {
		at = 0
	}
	w.all = slices.Insert(w.all, at, entry{p, api.PlaceList, m})
	return api.OK
}

func (w *words) insert(p api.Place, i int, m member) api.Errno {
	if e := w.refuses(p, api.PlaceTree, m); e != api.OK {
		return e
	}
	behind := append(w.at(p), len(w.all))
	if i < 0 || i >= len(behind) {
		return api.ErrArg
	}
	w.all = slices.Insert(w.all, behind[i], entry{p, api.PlaceTree, m})
	return api.OK
}

func (w *words) peek(p api.Place, front bool) (api.Handle, bool) {
	row := w.row(p)
	if w.kind(p) != api.PlaceList {
		return api.Handle{}, false
	}
	if front {
		return row[0], true
	}
	return row[len(row)-1], true
}

// leave takes all out for which it is so.
func (w *words) leave(is func(e entry) bool) {
	w.all = slices.DeleteFunc(w.all, is)
}

func (w *words) places() []api.Place {
	var out []api.Place
	for _, e := range w.all {
		if !slices.Contains(out, e.p) {
			out = append(out, e.p)
		}
	}
	slices.SortFunc(out, func(p, q api.Place) int {
		return slices.Compare([]int{p.Map, p.Slot, p.At}, []int{q.Map, q.Slot, q.At})
	})
	return out
}

// both is a graph and what the words say of it.
type both struct {
	g *graph.Graph
	w *words
}

func bothOf() both {
	return both{graph.New(), &words{}}
}

func (b both) push(t *testing.T, p api.Place, m member, front bool) {
	t.Helper()
	e := b.g.Push(p, m.h, m.node, front)
	if f := b.w.push(p, m, front); e != f {
		t.Fatalf("Push of %v (front %v) at %v is %v, not %v", m, front, p, e, f)
	}
}

func (b both) insert(t *testing.T, p api.Place, i int, m member) {
	t.Helper()
	e := b.g.Insert(p, i, m.h, m.node)
	if f := b.w.insert(p, i, m); e != f {
		t.Fatalf("Insert of %v as the %d-th at %v is %v, not %v", m, i, p, e, f)
	}
}

func (b both) pop(t *testing.T, p api.Place, front bool) {
	t.Helper()
	h, is := b.g.Pop(p, front)
	want, has := b.w.peek(p, front)
	b.w.leave(func(e entry) bool { return has && e.p == p && e.m.h == want })
	if h != want || is != has {
		t.Fatalf("Pop (front %v) at %v is %v, %v, not %v, %v", front, p, h, is, want, has)
	}
}

func (b both) remove(t *testing.T, p api.Place, m member) {
	t.Helper()
	is := b.g.Remove(p, m.h, m.node)
	n := len(b.w.all)
	b.w.leave(func(e entry) bool { return e.p == p && e.m == m })
	if has := len(b.w.all) < n; is != has {
		t.Fatalf("Remove of %v at %v is %v, not %v", m, p, is, has)
	}
}

func (b both) drain(t *testing.T, p api.Place) {
	t.Helper()
	got := b.g.Drain(p)
	if want := b.w.row(p); !slices.Equal(got, want) {
		t.Fatalf("Drain of %v is %v, not %v", p, got, want)
	}
	b.w.leave(func(e entry) bool { return e.p == p })
}

// same holds all that the graph tells of itself, of these places and of these nodes, against the words.
func (b both) same(t *testing.T, places []api.Place, nodes []member) {
	t.Helper()
	if got, want := b.g.Places(), b.w.places(); !slices.Equal(got, want) {
		t.Fatalf("Places are %v, not %v", got, want)
	}
	for _, p := range places {
		b.sameAt(t, p)
	}
	for _, m := range nodes {
		p, is := b.g.In(m.h, m.node)
		if want, has := b.w.in(m); p != want || is != has {
			t.Fatalf("In of %v is %v, %v, not %v, %v", m, p, is, want, has)
		}
	}
}

func (b both) sameAt(t *testing.T, p api.Place) {
	t.Helper()
	row := b.w.row(p)
	if kind, n := b.g.Kind(p), b.g.Len(p); kind != b.w.kind(p) || n != len(row) {
		t.Fatalf("Kind and Len of %v are %d and %d, not %d and %d", p, kind, n, b.w.kind(p), len(row))
	}
	for i := -1; i <= len(row); i++ {
		var want api.Handle
		has := i >= 0 && i < len(row)
		if has {
			want = row[i]
		}
		if h, is := b.g.At(p, i); h != want || is != has {
			t.Fatalf("At of %v, the %d-th, is %v, %v, not %v, %v", p, i, h, is, want, has)
		}
	}
	for _, front := range []bool{true, false} {
		h, is := b.g.Peek(p, front)
		if want, has := b.w.peek(p, front); h != want || is != has {
			t.Fatalf("Peek (front %v) of %v is %v, %v, not %v, %v", front, p, h, is, want, has)
		}
	}
}

// rows calls with each row of that many out of n numbers.
func rows(n, long int, call func(row []int)) {
	row := make([]int, long)
	for {
		call(row)
		i := 0
		for i < long && row[i] == n-1 {
			row[i] = 0
			i++
		}
		if i == long {
			return
		}
		row[i]++
	}
}

// nodesOf are all of these nodes of these handles.
func nodesOf(handles []api.Handle, nodes ...int) []member {
	var out []member
	for _, h := range handles {
		for _, node := range nodes {
			out = append(out, member{h, node})
		}
	}
	return out
}

// shortCalls are all calls that change what is at these places, by these nodes.
func shortCalls(t *testing.T, places []api.Place, nodes []member) []func(b both) {
	var calls []func(b both)
	for _, p := range places {
		calls = append(calls,
			func(b both) { b.pop(t, p, true) },
			func(b both) { b.pop(t, p, false) },
			func(b both) { b.drain(t, p) },
		)
		for _, m := range nodes {
			calls = append(calls,
				func(b both) { b.push(t, p, m, true) },
				func(b both) { b.push(t, p, m, false) },
				func(b both) { b.insert(t, p, 0, m) },
				func(b both) { b.insert(t, p, 1, m) },
				func(b both) { b.remove(t, p, m) },
			)
		}
	}
	return calls
}

// TestWordsShort: all rows of three calls out of 46, with two places, two handles and two nodes of each.
func TestWordsShort(t *testing.T) {
	places := []api.Place{{}, q}
	nodes := nodesOf([]api.Handle{{}, a}, 0, 16)
	calls := shortCalls(t, places, nodes)
	rows(len(calls), 3, func(row []int) {
		b := bothOf()
		for _, i := range row {
			calls[i](b)
		}
		b.same(t, places, nodes)
	})
}

// TestWordsNarrow: all rows of five calls out of 14, with one place, and a node of one handle and two of another one.
func TestWordsNarrow(t *testing.T) {
	places := []api.Place{p}
	nodes := []member{{a, 0}, {b, 0}, {b, 16}}
	var calls []func(b both)
	for i, call := range shortCalls(t, places, nodes) {
		if i != 1 && i%5 != 4 { // without Pop at the back, and without a Push at the back
			calls = append(calls, call)
		}
	}
	rows(len(calls), 5, func(row []int) {
		b := bothOf()
		for _, i := range row {
			calls[i](b)
		}
		b.same(t, places, nodes)
	})
}

// drawn does one call, of one sort out of all.
func (b both) drawn(t *testing.T, r *rand.Rand, places []api.Place, nodes []member) {
	t.Helper()
	p, m := places[r.IntN(len(places))], nodes[r.IntN(len(nodes))]
	switch n := r.IntN(40); {
	case n < 14:
		b.push(t, p, m, n%2 == 0)
	case n < 27:
		b.insert(t, p, r.IntN(b.g.Len(p)+3)-1, m)
	case n < 34:
		if where, is := b.w.in(m); is && n%4 > 0 {
			p = where
		}
		b.remove(t, p, m)
	case n < 39:
		b.pop(t, p, n%2 == 0)
	default:
		b.drain(t, p)
	}
}

// TestWordsDrawn: long rows of calls, with few places and handles, and with many; the graph is held against the words behind each call.
func TestWordsDrawn(t *testing.T) {
	for n := 1; n <= 32; n *= 2 {
		for handles := 1; handles <= 32; handles *= 2 {
			r := rand.New(rand.NewPCG(uint64(n), uint64(handles)))
			places := places()[:n]
			nodes := nodesOf(kinds()[:handles], 0, 16, -1)
			b := bothOf()
			for range 1500 {
				b.drawn(t, r, places, nodes)
				b.same(t, places, nodes)
			}
		}
	}
}

// TestP173Graphs: several graphs at once, each with its own places and nodes.
func TestP173Graphs(t *testing.T) {
	r := rand.New(rand.NewPCG(17, 17))
	places := places()[:4]
	nodes := nodesOf(kinds()[:6], 0, 16)
	graphs := []both{bothOf(), bothOf(), bothOf()}
	for range 3000 {
		graphs[r.IntN(len(graphs))].drawn(t, r, places, nodes)
		for _, b := range graphs {
			b.same(t, places, nodes)
		}
	}
}

// TestP173OnePlace: behind each of many drawn calls each node is in one place at most, and each place has just those nodes that are said to be in it.
func TestP173OnePlace(t *testing.T) {
	r := rand.New(rand.NewPCG(17, 3))
	places := places()[:5]
	nodes := nodesOf(kinds()[:8], 0, 16)
	b := bothOf()
	for range 3000 {
		b.drawn(t, r, places, nodes)
		said := map[api.Place][]api.Handle{}
		for _, m := range nodes {
			if p, is := b.g.In(m.h, m.node); is {
				said[p] = append(said[p], m.h)
			}
		}
		if len(said) != len(b.g.Places()) {
			t.Fatalf("nodes are said to be at %d places, out of %d", len(said), len(b.g.Places()))
		}
		for p, handles := range said {
			if n := b.g.Len(p); n != len(handles) {
				t.Fatalf("%v has %d, of which %d are said to be there", p, n, len(handles))
			}
			for i := range b.g.Len(p) {
				if h, _ := b.g.At(p, i); !slices.Contains(handles, h) {
					t.Fatalf("%v has %v, that is not said to be there", p, h)
				}
			}
		}
	}
}

// TestP173Long: rows of many handles, by either node, come out as they went in.
func TestP173Long(t *testing.T) {
	const n = 50000
	g := graph.New()
	var want []api.Handle
	for i := range n {
		h := api.Handle{Slot: i, Gen: 1}
		pushes(t, g, p, member{h, i % 3}, false)
		inserts(t, g, q, i, member{h, 3 + i%3})
		want = append(want, h)
	}
	for i := 0; i < n; i += 7 {
		removes(t, g, p, member{want[i], i % 3})
		removes(t, g, q, member{want[i], 3 + i%3})
	}
	want = slices.DeleteFunc(want, func(h api.Handle) bool { return h.Slot%7 == 0 })
	for _, x := range []api.Place{p, q} {
		if got := g.Drain(x); !slices.Equal(got, want) {
			t.Fatalf("Drain of %v is not what is left", x)
		}
	}
	has(t, g)
}
