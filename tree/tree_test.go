package tree_test

import (
	"math"
	"math/bits"
	"slices"
	"testing"

	"warden/api"
	"warden/tree"
)

// some are n handles that differ by their slots, or by their numbers.
func some(n int) []api.Handle {
	var out []api.Handle
	for i := range n {
		out = append(out, api.Handle{Slot: i / 2, Gen: uint64(1 + i%2)})
	}
	return out
}

// kinds are handles of every kind: the zero one, slots below 0 and very great ones, and such as differ by one of both alone.
func kinds() []api.Handle {
	var out []api.Handle
	for _, slot := range []int{0, 1, 2, -1, 63, 64, -64, 1 << 31, 1 << 32, 1<<32 + 1, -1 << 32, math.MaxInt - 1, math.MaxInt, math.MinInt, math.MinInt + 1} {
		for _, number := range []uint64{1, 0, 2, 1 << 32, 1<<32 + 1, 1 << 63, math.MaxUint64} {
			out = append(out, api.Handle{Slot: slot, Gen: number})
		}
	}
	return out
}

// far are places that are none, if the least one behind all is n: nearby, and very great and very small ones.
func far(n int) []int {
	return []int{-1, n, -2, n + 1, -n - 1, 1 << 31, 1 << 32, -1 << 31, -1 << 32, 1<<32 + n, math.MaxInt - 1, math.MaxInt, math.MinInt, math.MinInt + 1, math.MinInt + n}
}

// treeOf is a tree with this row.
func treeOf(t *testing.T, row ...api.Handle) *tree.Tree {
	t.Helper()
	x := tree.New()
	for i, h := range row {
		inserts(t, x, i, h)
	}
	has(t, x, row...)
	return x
}

func inserts(t *testing.T, x *tree.Tree, i int, h api.Handle) {
	t.Helper()
	if e := x.Insert(i, h); e != api.OK {
		t.Fatalf("Insert of %v at %d is %v", h, i, e)
	}
}

func removes(t *testing.T, x *tree.Tree, h api.Handle, want int) {
	t.Helper()
	if i, is := x.Remove(h); i != want || !is {
		t.Fatalf("Remove of %v is %d, %v, not %d", h, i, is, want)
	}
	out(t, x, h)
}

// has holds all that the tree tells of itself: its row is this one, and it is low enough.
func has(t *testing.T, x *tree.Tree, row ...api.Handle) {
	t.Helper()
	if got := x.All(); !slices.Equal(got, row) {
		t.Fatalf("All are %v, not %v", got, row)
	}
	if got := x.Len(); got != len(row) {
		t.Fatalf("Len is %d, not %d", got, len(row))
	}
	for i, h := range row {
		if got, is := x.At(i); got != h || !is {
			t.Fatalf("At of %d is %v, %v, not %v", i, got, is, h)
		}
		if got, is := x.Index(h); got != i || !is {
			t.Fatalf("Index of %v is %d, %v, not %d", h, got, is, i)
		}
	}
	for _, i := range far(len(row)) {
		if got, is := x.At(i); got != (api.Handle{}) || is {
			t.Fatalf("At of %d, out of %d, is %v, %v", i, len(row), got, is)
		}
	}
	low(t, x)
}

// low holds the tree's depth against the document's bound; and it can't be less than that of two sides that are as even as may be.
func low(t *testing.T, x *tree.Tree) {
	t.Helper()
	n, deep := uint(x.Len()), x.Deep()
	if most := 2 * bits.Len(n+1); deep > most {
		t.Fatalf("Deep of %d is %d, above %d", n, deep, most)
	}
	if least := bits.Len(n); deep < least {
		t.Fatalf("Deep of %d is %d, below %d", n, deep, least)
	}
	if n == 0 && deep != 0 {
		t.Fatalf("Deep of none is %d", deep)
	}
}

// out holds that none of the handles is in, and that who would remove one changes nothing.
func out(t *testing.T, x *tree.Tree, handles ...api.Handle) {
	t.Helper()
	before, deep := x.All(), x.Deep()
	for _, h := range handles {
		if i, is := x.Index(h); i != 0 || is {
			t.Fatalf("Index of %v, that is not in, is %d, %v", h, i, is)
		}
		if i, is := x.Remove(h); i != 0 || is {
			t.Fatalf("Remove of %v, that is not in, is %d, %v", h, i, is)
		}
	}
	if got := x.All(); !slices.Equal(got, before) || x.Deep() != deep || x.Len() != len(before) {
		t.Fatalf("the row was changed from %v to %v", before, got)
	}
}

// refuses holds that the handle is inserted at none of these places, and that the calls change nothing.
func refuses(t *testing.T, x *tree.Tree, want api.Errno, h api.Handle, places ...int) {
	t.Helper()
	before, deep := x.All(), x.Deep()
	for _, i := range places {
		if e := x.Insert(i, h); e != want {
			t.Fatalf("Insert of %v at %d is %v, not %v", h, i, e, want)
		}
	}
	has(t, x, before...)
	if x.Deep() != deep {
		t.Fatalf("Deep was changed from %d to %d", deep, x.Deep())
	}
}

// upTo are the numbers from 0 to n.
func upTo(n int) []int {
	var all []int
	for i := range n + 1 {
		all = append(all, i)
	}
	return all
}

// with is the row with one more at i.
func with(row []api.Handle, i int, h api.Handle) []api.Handle {
	return slices.Insert(slices.Clone(row), i, h)
}

// without is the row without the i-th.
func without(row []api.Handle, i int) []api.Handle {
	return slices.Delete(slices.Clone(row), i, i+1)
}

// fills calls with each row of places at which n may be inserted, one behind the other.
func fills(n int, call func(places []int)) {
	places := make([]int, n)
	var more func(i int)
	more = func(i int) {
		if i == n {
			call(places)
			return
		}
		for places[i] = 0; places[i] <= i; places[i]++ {
			more(i + 1)
		}
	}
	more(0)
}

// filled is a tree that was filled at these places, and its row.
func filled(t *testing.T, places []int) (*tree.Tree, []api.Handle) {
	t.Helper()
	x := tree.New()
	var row []api.Handle
	for k, h := range some(len(places)) {
		inserts(t, x, places[k], h)
		row = with(row, places[k], h)
	}
	return x, row
}

func TestExample(t *testing.T) {
	a, b, c := api.Handle{Slot: 1, Gen: 1}, api.Handle{Slot: 2, Gen: 1}, api.Handle{Slot: 3, Gen: 1}
	x := tree.New()
	inserts(t, x, 0, a)
	inserts(t, x, 0, b)
	inserts(t, x, 1, c)
	has(t, x, b, c, a)
	if i, is := x.Index(a); i != 2 || !is {
		t.Fatalf("Index of a is %d, %v", i, is)
	}
}

func TestP161New(t *testing.T) {
	x := tree.New()
	if x == nil {
		t.Fatal("New is nil")
	}
	has(t, x)
	out(t, x, kinds()...)
	refuses(t, x, api.ErrArg, api.Handle{}, far(1)...)
	has(t, x)
}

// TestP161Insert: all rows of up to six insertions; those behind stand one farther each time.
func TestP161Insert(t *testing.T) {
	for n := range 7 {
		fills(n, func(places []int) {
			x := tree.New()
			var row []api.Handle
			for k, h := range some(n) {
				inserts(t, x, places[k], h)
				row = with(row, places[k], h)
				has(t, x, row...)
			}
		})
	}
}

// TestP161Shift: of each one ahead of the new one the place stays, of each one behind it is one farther; the other way round when it is removed.
func TestP161Shift(t *testing.T) {
	h := api.Handle{Slot: 99, Gen: 9}
	for n := range 20 {
		row := some(n)
		for at := range n + 1 {
			x := treeOf(t, row...)
			inserts(t, x, at, h)
			for i, other := range row {
				want := i
				if i >= at {
					want++
				}
				if got, is := x.Index(other); got != want || !is {
					t.Fatalf("Index of the %d-th is %d, %v, not %d, behind an Insert at %d", i, got, is, want, at)
				}
			}
			has(t, x, with(row, at, h)...)
			removes(t, x, h, at)
			has(t, x, row...)
		}
	}
}

// TestP161Places: at a place that is none nothing is inserted, into a tree of any number.
func TestP161Places(t *testing.T) {
	for n := range 20 {
		x := treeOf(t, some(n)...)
		refuses(t, x, api.ErrArg, api.Handle{Slot: 99, Gen: 9}, far(n+1)...)
		refuses(t, x, api.ErrArg, api.Handle{}, far(n+1)...)
		out(t, x, api.Handle{Slot: 99, Gen: 9}, api.Handle{})
	}
}

// TestP161PlacesFewer: behind a removal the last place is one nearer, too.
func TestP161PlacesFewer(t *testing.T) {
	row := some(9)
	x := treeOf(t, row...)
	for n := 9; n > 0; n-- {
		removes(t, x, row[n-1], n-1)
		refuses(t, x, api.ErrArg, row[n-1], far(n)...)
		inserts(t, x, n-1, row[n-1])
		removes(t, x, row[n-1], n-1)
	}
	has(t, x)
}

// TestP161There: the first one, the last one, one between, the only one: none is inserted again, at whatever place, its own one among them.
func TestP161There(t *testing.T) {
	for n := 1; n < 12; n++ {
		row := some(n)
		x := treeOf(t, row...)
		for _, h := range row {
			refuses(t, x, api.ErrThere, h, upTo(n)...)
		}
	}
}

// TestP161ArgFirst: of one that is in, at a place that is none, it is the place that is told.
func TestP161ArgFirst(t *testing.T) {
	for n := 1; n < 12; n++ {
		row := some(n)
		x := treeOf(t, row...)
		for _, h := range row {
			refuses(t, x, api.ErrArg, h, far(n+1)...)
		}
	}
}

// TestP161Again: one that was in, and is in no more, is inserted like any other, at whatever place.
func TestP161Again(t *testing.T) {
	for n := 1; n < 9; n++ {
		row := some(n)
		for i, h := range row {
			for at := range n {
				x := treeOf(t, row...)
				for range 3 {
					from, _ := x.Index(h)
					removes(t, x, h, from)
					has(t, x, without(row, i)...)
					inserts(t, x, at, h)
					refuses(t, x, api.ErrThere, h, upTo(n)...)
				}
				has(t, x, with(without(row, i), at, h)...)
			}
		}
	}
}

// TestP161Round: whoever is taken from the one end is put to the other one.
func TestP161Round(t *testing.T) {
	for n := 1; n < 20; n++ {
		row := some(n)
		x := treeOf(t, row...)
		for range 2 * n {
			removes(t, x, row[0], 0)
			inserts(t, x, n-1, row[0])
			row = append(without(row, 0), row[0])
			has(t, x, row...)
		}
		for range 2 * n {
			removes(t, x, row[n-1], n-1)
			inserts(t, x, 0, row[n-1])
			row = with(row[:n-1], 0, row[n-1])
			has(t, x, row...)
		}
	}
}

// TestP161Kinds: handles of every kind are no more to the tree than others, and each is told from all others.
func TestP161Kinds(t *testing.T) {
	all := kinds()
	x := tree.New()
	for i, h := range all {
		out(t, x, all[i:]...)
		inserts(t, x, i, h)
	}
	has(t, x, all...)
	for _, h := range all {
		refuses(t, x, api.ErrThere, h, 0, len(all)/2, len(all))
	}
	for i, h := range all {
		removes(t, x, h, 0)
		has(t, x, all[i+1:]...)
	}
	for _, h := range all {
		inserts(t, x, 0, h)
	}
	slices.Reverse(all)
	has(t, x, all...)
}

// TestP161Alone: each handle of every kind may be the only one.
func TestP161Alone(t *testing.T) {
	for _, h := range kinds() {
		x := tree.New()
		for range 2 {
			inserts(t, x, 0, h)
			has(t, x, h)
			refuses(t, x, api.ErrThere, h, 0, 1)
			refuses(t, x, api.ErrArg, h, far(2)...)
			removes(t, x, h, 0)
			has(t, x)
		}
	}
}

// TestP161ZeroHandle: it is one like any other: in when it was inserted, and not what a place without a handle answers true of.
func TestP161ZeroHandle(t *testing.T) {
	zero, other := api.Handle{}, api.Handle{Slot: 1, Gen: 1}
	x := tree.New()
	out(t, x, zero)
	inserts(t, x, 0, other)
	out(t, x, zero)
	inserts(t, x, 1, zero)
	has(t, x, other, zero)
	inserts(t, x, 1, api.Handle{Gen: 1})
	has(t, x, other, api.Handle{Gen: 1}, zero)
	removes(t, x, zero, 2)
	inserts(t, x, 0, zero)
	has(t, x, zero, other, api.Handle{Gen: 1})
	removes(t, x, zero, 0)
	has(t, x, other, api.Handle{Gen: 1})
}

// TestP161Twins: handles that differ by their slot alone, or by their number alone, are two.
func TestP161Twins(t *testing.T) {
	h := api.Handle{Slot: 3, Gen: 5}
	for _, twin := range []api.Handle{{Slot: 4, Gen: 5}, {Slot: 3, Gen: 6}, {Slot: 5, Gen: 3}, {Slot: -3, Gen: 5}, {Slot: 3}, {Gen: 5}, {Slot: 3 + 1<<32, Gen: 5}, {Slot: 3, Gen: 5 + 1<<32}} {
		x := treeOf(t, h)
		out(t, x, twin)
		inserts(t, x, 0, twin)
		has(t, x, twin, h)
		refuses(t, x, api.ErrThere, h, 0, 1, 2)
		refuses(t, x, api.ErrThere, twin, 0, 1, 2)
		removes(t, x, h, 1)
		has(t, x, twin)
		inserts(t, x, 1, h)
		removes(t, x, twin, 0)
		has(t, x, h)
	}
}

// TestP161Remove: the first, the last, one between, the only one; not again, and none that is not in; with the place at which it stood.
func TestP161Remove(t *testing.T) {
	for n := 1; n < 24; n++ {
		row := some(n)
		for i, h := range row {
			x := treeOf(t, row...)
			out(t, x, some(n + 3)[n:]...)
			removes(t, x, h, i)
			out(t, x, h, h)
			has(t, x, without(row, i)...)
		}
	}
}

// TestP161RemoveEach: each one out of a tree that was filled in whatever order.
func TestP161RemoveEach(t *testing.T) {
	for n := 1; n < 8; n++ {
		fills(n, func(places []int) {
			for i := range n {
				x, row := filled(t, places)
				removes(t, x, row[i], i)
				has(t, x, without(row, i)...)
			}
		})
	}
}

// TestP161RemoveOrders: all, in whatever order, out of a tree that was filled in whatever order.
func TestP161RemoveOrders(t *testing.T) {
	const n = 5
	fills(n, func(places []int) {
		fills(n, func(gone []int) {
			x, row := filled(t, places)
			for len(row) > 0 {
				i := gone[len(row)-1]
				removes(t, x, row[i], i)
				row = without(row, i)
				has(t, x, row...)
			}
		})
	})
}

// TestP162At: of each place, and of those that are none.
func TestP162At(t *testing.T) {
	a, b, c := api.Handle{Slot: 7, Gen: 1}, api.Handle{Slot: 5, Gen: 2}, api.Handle{Slot: 6, Gen: 3}
	x := treeOf(t, a, b, c)
	for i, want := range []api.Handle{a, b, c} {
		if h, is := x.At(i); h != want || !is {
			t.Errorf("At of %d is %v, %v, not %v", i, h, is, want)
		}
	}
	for _, i := range far(3) {
		if h, is := x.At(i); h != (api.Handle{}) || is {
			t.Errorf("At of %d is %v, %v", i, h, is)
		}
	}
}

// TestP162Index: of each one; of one that is not in, or is in no more.
func TestP162Index(t *testing.T) {
	a, b, c := api.Handle{Slot: 7, Gen: 1}, api.Handle{Slot: 5, Gen: 2}, api.Handle{Slot: 6, Gen: 3}
	x := treeOf(t, a, b)
	for want, h := range []api.Handle{a, b} {
		if i, is := x.Index(h); i != want || !is {
			t.Errorf("Index of %v is %d, %v, not %d", h, i, is, want)
		}
	}
	out(t, x, c, api.Handle{}, api.Handle{Slot: 7}, api.Handle{Gen: 1})
	removes(t, x, a, 0)
	out(t, x, a)
	has(t, x, b)
}

// TestP162Deep: the least trees can be of one depth alone, or of one of two.
func TestP162Deep(t *testing.T) {
	x := tree.New()
	if deep := x.Deep(); deep != 0 {
		t.Errorf("Deep of none is %d", deep)
	}
	row := some(2)
	inserts(t, x, 0, row[0])
	if deep := x.Deep(); deep != 1 {
		t.Errorf("Deep of one is %d", deep)
	}
	for i := range 2 {
		inserts(t, x, i, row[1])
		if deep := x.Deep(); deep != 2 {
			t.Errorf("Deep of two is %d", deep)
		}
		removes(t, x, row[1], i)
		if deep := x.Deep(); deep != 1 {
			t.Errorf("Deep of one is %d again", deep)
		}
	}
	removes(t, x, row[0], 0)
	if deep := x.Deep(); deep != 0 {
		t.Errorf("Deep of none is %d again", deep)
	}
}

// TestP162AllIsNew: who changes a list that was answered changes neither the tree nor another list; what is done to the tree changes no list that was answered.
func TestP162AllIsNew(t *testing.T) {
	row := some(4)
	x := treeOf(t, row...)
	got, again := x.All(), x.All()
	for i := range got {
		got[i] = api.Handle{Slot: -1, Gen: 99}
	}
	_ = append(got[:1], api.Handle{Slot: 8, Gen: 8})
	_ = append(got, api.Handle{Slot: 7, Gen: 7})
	if !slices.Equal(again, row) {
		t.Fatal("another list was changed to", again)
	}
	has(t, x, row...)
	out(t, x, api.Handle{Slot: -1, Gen: 99})
	removes(t, x, row[1], 1)
	inserts(t, x, 0, row[1])
	removes(t, x, row[3], 3)
	if !slices.Equal(again, row) {
		t.Fatal("the tree changed what it had answered to", again)
	}
	has(t, x, row[1], row[0], row[2])
}

// TestP162AllOfNone: a list that was answered of an empty tree is none of its own either.
func TestP162AllOfNone(t *testing.T) {
	x := tree.New()
	_ = append(x.All(), api.Handle{Slot: 7, Gen: 7})
	has(t, x)
	inserts(t, x, 0, api.Handle{Slot: 1, Gen: 1})
	removes(t, x, api.Handle{Slot: 1, Gen: 1}, 0)
	_ = append(x.All(), api.Handle{Slot: 7, Gen: 7})
	has(t, x)
}

// TestP162Reads: who asks, however often, changes nothing.
func TestP162Reads(t *testing.T) {
	row := some(30)
	x := treeOf(t, row...)
	deep := x.Deep()
	for range 5 {
		has(t, x, row...)
		if x.Deep() != deep {
			t.Fatalf("Deep is %d, and was %d", x.Deep(), deep)
		}
	}
}

// TestNil: each call of nil, and of a tree that New did not make; it does nothing.
func TestNil(t *testing.T) {
	for _, x := range []*tree.Tree{nil, new(tree.Tree), {}} {
		for range 2 {
			has(t, x)
			out(t, x, kinds()...)
			for _, h := range kinds() {
				refuses(t, x, api.ErrNil, h, 0, 1)
				refuses(t, x, api.ErrNil, h, far(0)...)
			}
			has(t, x)
		}
	}
}

// TestTreesApart: what is done to one tree makes no difference to another one, though both have the same handles.
func TestTreesApart(t *testing.T) {
	x, y := tree.New(), tree.New()
	if x == y {
		t.Fatal("New answers one tree twice")
	}
	row := some(4)
	for i, h := range row {
		inserts(t, x, i, h)
		out(t, y, h)
	}
	has(t, y)
	for _, h := range row {
		inserts(t, y, 0, h)
	}
	other := []api.Handle{row[3], row[2], row[1], row[0]}
	has(t, x, row...)
	has(t, y, other...)
	refuses(t, x, api.ErrThere, row[0], 0, 2, 4)
	has(t, y, other...)
	removes(t, x, row[1], 1)
	has(t, y, other...)
	removes(t, y, row[3], 0)
	has(t, x, row[0], row[2], row[3])
	for _, h := range []api.Handle{row[0], row[2], row[3]} {
		removes(t, x, h, 0)
	}
	has(t, x)
	has(t, y, other[1:]...)
	has(t, tree.New())
}
