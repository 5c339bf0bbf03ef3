package tree_test

// The chapter's words written out again, in another way: a plain row of handles, gone through from the first one for whatever is asked. Held against the package over all short rows of calls, and over long ones that are drawn; and what follows of them.

import (
	"math/rand/v2"
	"slices"
	"testing"

	"warden/api"
	"warden/tree"
)

type words struct{ row []api.Handle }

func (w *words) insert(i int, h api.Handle) api.Errno {
	if i < 0 || i > len(w.row) {
		return api.ErrArg
	}
	if slices.Contains(w.row, h) {
		return api.ErrThere
	}
	w.row = append(w.row, h)
	for k := len(w.row) - 1; k > i; k-- {
		w.row[k-1], w.row[k] = w.row[k], w.row[k-1]
	}
	return api.OK
}

func (w *words) index(h api.Handle) (int, bool) {
	for i, other := range w.row {
		if other == h {
			return i, true
		}
	}
	return 0, false
}

func (w *words) at(i int) (api.Handle, bool) {
	for k, h := range w.row {
		if k == i {
			return h, true
		}
	}
	return api.Handle{}, false
}

func (w *words) remove(h api.Handle) (int, bool) {
	i, is := w.index(h)
	w.row = slices.DeleteFunc(w.row, func(other api.Handle) bool { return other == h })
	return i, is
}

// both is a tree and what the words say of it.
type both struct {
	x *tree.Tree
	w *words
}

func bothOf() both {
	return both{tree.New(), &words{}}
}

func (b both) insert(t *testing.T, i int, h api.Handle) {
	t.Helper()
	e := b.x.Insert(i, h)
	if f := b.w.insert(i, h); e != f {
		t.Fatalf("Insert of %v at %d is %v, not %v", h, i, e, f)
	}
}

func (b both) remove(t *testing.T, h api.Handle) {
	t.Helper()
	i, is := b.x.Remove(h)
	if at, was := b.w.remove(h); i != at || is != was {
		t.Fatalf("Remove of %v is %d, %v, not %d, %v", h, i, is, at, was)
	}
}

// same holds all that the tree tells of itself, and of these handles, against the words.
func (b both) same(t *testing.T, handles []api.Handle) {
	t.Helper()
	if got := b.x.All(); !slices.Equal(got, b.w.row) {
		t.Fatalf("All are %v, not %v", got, b.w.row)
	}
	if got := b.x.Len(); got != len(b.w.row) {
		t.Fatalf("Len is %d, not %d", got, len(b.w.row))
	}
	for i := -2; i < len(b.w.row)+2; i++ {
		h, is := b.x.At(i)
		if want, has := b.w.at(i); h != want || is != has {
			t.Fatalf("At of %d is %v, %v, not %v, %v", i, h, is, want, has)
		}
	}
	for _, h := range handles {
		i, is := b.x.Index(h)
		if want, has := b.w.index(h); i != want || is != has {
			t.Fatalf("Index of %v is %d, %v, not %d, %v", h, i, is, want, has)
		}
	}
	low(t, b.x)
}

// rows calls with each row of that many out of n numbers.
func rows(n, long int, call func(row []int)) {
	row := make([]int, long)
	for {
		call(row)
		i := 0
		for i < long && row[i] == n-1 {
			row[i] = 0
			i++
		}
		if i == long {
			return
		}
		row[i]++
	}
}

// TestWordsShort: all rows of four calls out of eighteen that change a row of at most three handles, or are refused.
func TestWordsShort(t *testing.T) {
	handles := []api.Handle{{}, {Slot: 1}, {Gen: 1}}
	var calls []func(b both)
	for _, h := range handles {
		for i := -1; i < 4; i++ {
			calls = append(calls, func(b both) { b.insert(t, i, h) })
		}
		calls = append(calls, func(b both) { b.remove(t, h) })
	}
	rows(len(calls), 4, func(row []int) {
		b := bothOf()
		for _, i := range row {
			calls[i](b)
		}
		b.same(t, handles)
	})
}

// drawn does one call, at a place that may be none, with a handle that is in about as often as not.
func (b both) drawn(t *testing.T, r *rand.Rand, handles []api.Handle) {
	t.Helper()
	h := handles[r.IntN(len(handles))]
	if r.IntN(2) == 0 {
		b.remove(t, h)
	} else {
		b.insert(t, r.IntN(len(b.w.row)+3)-1, h)
	}
}

// TestWordsDrawn: long rows of calls, over few handles and over many; the tree is held against the words behind each call.
func TestWordsDrawn(t *testing.T) {
	for n := 1; n <= len(kinds()); n += 1 + n/2 {
		r := rand.New(rand.NewPCG(16, uint64(n)))
		handles := kinds()[:n]
		b := bothOf()
		for range 4000 {
			b.drawn(t, r, handles)
			b.same(t, handles)
		}
	}
}

// TestWordsWaves: the tree is filled at drawn places, and emptied of drawn handles, time and again.
func TestWordsWaves(t *testing.T) {
	handles := kinds()
	r := rand.New(rand.NewPCG(16, 16))
	b := bothOf()
	for range 20 {
		for _, i := range r.Perm(len(handles)) {
			b.insert(t, r.IntN(len(b.w.row)+1), handles[i])
			b.same(t, handles)
		}
		for _, i := range r.Perm(len(handles)) {
			b.remove(t, handles[i])
			b.same(t, handles)
		}
	}
}

// TestP163Trees: several trees at once, each with its own row of the same handles.
func TestP163Trees(t *testing.T) {
	r := rand.New(rand.NewPCG(16, 163))
	handles := kinds()[:12]
	trees := []both{bothOf(), bothOf(), bothOf(), bothOf()}
	for range 3000 {
		trees[r.IntN(len(trees))].drawn(t, r, handles)
		for _, b := range trees {
			b.same(t, handles)
		}
	}
}

// wayIn tells at which place the k-th is inserted, into a tree that has k.
type wayIn struct {
	name  string
	place func(k int) int
}

// waysIn are the ways in which a tree is filled: from the front, from behind, in the midst, at the one end and the other one by turns, and a third from the front.
func waysIn() []wayIn {
	return []wayIn{
		{"front", func(int) int { return 0 }},
		{"behind", func(k int) int { return k }},
		{"midst", func(k int) int { return k / 2 }},
		{"turns", func(k int) int { return k % 2 * k }},
		{"third", func(k int) int { return k / 3 }},
		{"next to the front", func(k int) int { return min(k, 1) }},
		{"next to the end", func(k int) int { return max(k-1, 0) }},
	}
}

// TestP163Low: filled in each way, and emptied in each way, the tree is low, and its row a plain row, behind each call.
func TestP163Low(t *testing.T) {
	const n = 300
	for _, in := range waysIn() {
		for _, back := range waysIn() {
			t.Run(in.name+", "+back.name, func(t *testing.T) {
				b := bothOf()
				for k := range n {
					b.insert(t, in.place(k), api.Handle{Slot: k, Gen: 1})
					low(t, b.x)
				}
				b.same(t, b.w.row)
				for k := n - 1; k >= 0; k-- {
					b.remove(t, b.w.row[back.place(k)])
					low(t, b.x)
					if k%50 == 0 {
						b.same(t, b.w.row)
					}
				}
			})
		}
	}
}

// TestP163Turns: by turns two are inserted and one is removed, then one and two, each at a place of its own.
func TestP163Turns(t *testing.T) {
	const n = 300
	for _, in := range waysIn() {
		for _, back := range waysIn() {
			b := bothOf()
			next := 0
			insert := func() {
				b.insert(t, in.place(b.x.Len()), api.Handle{Slot: next, Gen: 1})
				next++
				low(t, b.x)
			}
			remove := func() {
				b.remove(t, b.w.row[back.place(b.x.Len()-1)])
				low(t, b.x)
			}
			for range n {
				insert()
				insert()
				remove()
			}
			b.same(t, b.w.row)
			for b.x.Len() > 1 {
				insert()
				remove()
				remove()
			}
			b.same(t, b.w.row)
		}
	}
}

// TestP163Sorted: handles that come in an order of their own, which is not that of their places, are found by their places alone.
func TestP163Sorted(t *testing.T) {
	const n = 200
	for _, in := range waysIn() {
		rising, falling := bothOf(), bothOf()
		for k := range n {
			rising.insert(t, in.place(k), api.Handle{Slot: k - n/2, Gen: uint64(k)})
			falling.insert(t, in.place(k), api.Handle{Slot: n/2 - k, Gen: uint64(n - k)})
		}
		rising.same(t, rising.w.row)
		falling.same(t, falling.w.row)
	}
}

// TestP163Long: trees of many handles, of which each third is removed, are a plain row still, and low.
func TestP163Long(t *testing.T) {
	const n = 100000
	for _, in := range waysIn()[:4] {
		x := tree.New()
		for k := range n {
			inserts(t, x, in.place(k), api.Handle{Slot: k, Gen: 1})
			low(t, x)
		}
		row := x.All()
		gone := 0
		var want []api.Handle
		for i, h := range row {
			if i%3 > 0 {
				want = append(want, h)
				continue
			}
			if at, is := x.Remove(h); at != i-gone || !is {
				t.Fatalf("Remove of %v is %d, %v, not %d", h, at, is, i-gone)
			}
			gone++
			low(t, x)
		}
		has(t, x, want...)
	}
}
